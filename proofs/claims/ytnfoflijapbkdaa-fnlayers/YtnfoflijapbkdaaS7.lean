/- Chapter 7, the specification: texts unlike, checks, bodies. -/
import Derived.Test.YtnfoflijapbkdaaL7
namespace Go.Proofs.Ytnfoflijapbkdaa
set_option linter.unusedVariables false
set_option maxRecDepth 1000000
set_option linter.unusedSimpArgs false
open Go.RowKit

set_option maxHeartbeats 1000000 in
theorem l7Xor_c (a b : ByteArray) (w : World) (hs : b.size = a.size) (hn : a.size ≤ 40) :
    Calls Try.prog 55 #[.string a, .string b] w fun e w' => e = .returned (.string (tx (xorB (bl a) (bl b)))) ∧ Below w.heap.size w w' := by
  obtain ⟨c, W, hcv, hc, hrow, hbel, hsz⟩ := bytes_new a w
  obtain ⟨l, hl0⟩ : ∃ l, l = bl a := ⟨_, rfl⟩
  obtain ⟨n, hn0⟩ : ∃ n, a.size = n := ⟨_, rfl⟩
  rw [← hl0] at hrow ⊢
  rw [hn0] at hcv hs hn
  have HL : Hid (l.length = n) := by show _ = _; rw [hl0, bl_length]; exact hn0
  have HLM : Hid (l.length = (bl b).length) := by show _ = _; rw [HL.out, bl_length]; exact hs.symm
  have HR : Hid (RowB W w.heap.size l) := hrow
  have HB : Hid (Below w.heap.size w W) := hbel
  have HS : Hid (w.heap.size ≤ W.heap.size) := by show _ ≤ _; omega
  have HN : Hid (b.size = n) := hs
  clear hl0 hn0 hrow hbel hsz hs
  obtain ⟨g, hg0⟩ : ∃ g, g = w.heap.size := ⟨_, rfl⟩
  rw [← hg0] at hcv HR HS
  have HG0 : Hid (g = w.heap.size) := hg0
  clear hg0
  go_enter Try.func55, Try.ntmps55
  go_wp2
  go_loopw [11] (fun iv wr => ∃ (k : Nat), k ≤ n ∧ iv = .int .i64 k ∧ Hid (RowB wr g ((xorB l (bl b)).take k ++ l.drop k)) ∧ Hid (W.grownBy wr (some g))) (fun iv _ => n - (intOf iv).toNat)
  case atStart => exact ⟨0, Nat.zero_le _, rfl, by show RowB _ _ _; simpa using HR.out, World.grownBy.refl _ _⟩
  case round =>
    obtain ⟨k, hk, rfl, hR, hG⟩ := hrel
    by_cases hlt : k < n
    · obtain ⟨z, hz⟩ : ∃ z, z = (xorB l (bl b)).take k ++ l.drop k := ⟨_, rfl⟩
      have hzl : z.length = l.length := by rw [hz, List.length_append, List.length_take, List.length_drop, xorB_length HLM.out, HL.out]; omega
      have HS := xor_step (m := bl b) z (by rw [HL.out]; exact hlt) HLM.out hzl hz
      have hR' := hR.out
      rw [← hz] at hR'
      have g1 := hR'.1 k (by rw [hzl, HL.out]; exact hlt)
      have g2 := hR'.2 k (by rw [hzl, HL.out]; exact hlt)
      have hk2 : k < b.size := by rw [HN.out]; exact hlt
      have hb := byte_at b k hk2
      have hxr := u8_xor (z.getD k 0) ((bl b).getD k 0)
      have hset := hR'.set (k := k) (by rw [hzl, HL.out]; exact hlt) (z.getD k 0 ^^^ (bl b).getD k 0)
      rw [HS] at hset
      have HSET : Hid (RowB (wr.setCell ⟨g, k, none⟩ (.int .u8 ((z.getD k 0 ^^^ (bl b).getD k 0).toNat : Int))) g ((xorB l (bl b)).take (k + 1) ++ l.drop (k + 1))) := hset
      have HG2 : Hid (W.grownBy (wr.setCell ⟨g, k, none⟩ (.int .u8 ((z.getD k 0 ^^^ (bl b).getD k 0).toNat : Int))) (some g)) := grown_trans hG.out (grown_setCell _ _ _ _)
      unfold bN at g1 hb
      generalize z.getD k 0 ^^^ (bl b).getD k 0 = x at hxr HSET HG2
      generalize (z.getD k 0).toNat = p at g1 hxr
      generalize ((bl b).getD k 0).toNat = q at hb hxr
      have h0 : (0 : Int) ≤ (k : Int) := by omega
      have h1 : (k : Int) < (n : Int) := by omega
      have h3 : (k : Int) < (b.size : Int) := by omega
      clear hR' HS hz hzl hset hR hG
      go_wp2
      go_region
      go_wp2
      go_roundw
      case rel => exact ⟨k + 1, by omega, by go_num, HSET.out.later (Below.refl _ _).drew, grown_trans HG2.out (grown_below (Below.refl _ _).drew)⟩
      case measure => simp [intOf]; omega
    · obtain rfl : k = n := by omega
      have hrr := hR.out
      rw [List.take_of_length_le (by rw [xorB_length HLM.out, HL.out]; exact Nat.le_refl _), List.drop_of_length_le (by rw [HL.out]; exact Nat.le_refl _), List.append_nil] at hrr
      have hcv2 := hrr.text k c (by rw [xorB_length HLM.out, HL.out])
      have HB2 : Hid (Below w.heap.size w wr) := HB.out.trans (below_grown hG.out (by rw [HG0.out]; exact Nat.le_refl _) (by rw [← HG0.out]; exact HS.out))
      obtain ⟨t, ht⟩ : ∃ t, t = tx (xorB l (bl b)) := ⟨_, rfl⟩
      rw [← ht] at hcv2
      have HT : Hid (t = tx (xorB l (bl b))) := ht
      clear hrr hR hG ht hcv
      go_wp2
      go_ret
      exact ⟨by rw [HT.out]; rfl, HB2.out⟩

set_option maxHeartbeats 1000000 in
theorem specXor_c (a b : ByteArray) (w : World) (ha : a.size ≤ 17592186044416) (hb : b.size ≤ 17592186044416) (t : ByteArray) (fb : Bool) (hF : xorF a b = (t, fb)) :
    Calls Try.prog 31 #[.string a, .string b] w fun e w' => e = .returned (.tuple #[.string t, .bool fb]) ∧ Below w.heap.size w w' := by
  unfold xorF at hF
  by_cases h1 : a.size = b.size
  · have i1 : ((a.size : Int) != (b.size : Int)) = false := by rw [bne_eq_false_iff_eq]; omega
    by_cases h2 : a.size ≤ 40
    · rw [if_pos ⟨h1, h2⟩] at hF
      simp only [Prod.mk.injEq] at hF
      obtain ⟨rfl, rfl⟩ := hF
      have i2 : ¬ (40 : Int) < (a.size : Int) := by omega
      have HT : Hid (∀ wx, Calls Try.prog 55 #[.string a, .string b] wx fun e w' => e = .returned (.string (tx (xorB (bl a) (bl b)))) ∧ Below wx.heap.size wx w') := fun wx => l7Xor_c a b wx h1.symm h2
      generalize tx (xorB (bl a) (bl b)) = z at HT ⊢
      clear h1 h2
      go_enter Try.func31, Try.ntmps31
      go_wp2_with fail
      refine (HT.out _).mono ?_
      rintro e w' ⟨rfl, hbe⟩
      have HB2 : Hid (Below w.heap.size w w') := hbe
      clear HT hbe
      go_wp2
      refine bodyPost_ret (v := .tuple #[.string z, .bool true]) (by simp [results, Try.results31, go_sem]; try rfl) rfl ?_
      exact ⟨rfl, HB2.out⟩
    · rw [if_neg (fun h => h2 h.2)] at hF
      simp only [Prod.mk.injEq] at hF
      obtain ⟨rfl, rfl⟩ := hF
      have i2 : (40 : Int) < (a.size : Int) := by omega
      clear h1
      go_enter Try.func31, Try.ntmps31
      go_wp2
      refine bodyPost_ret (v := .tuple #[.string ByteArray.empty, .bool false]) (by simp [results, Try.results31, go_sem]; try rfl) rfl ?_
      exact ⟨rfl, Below.refl _ _⟩
  · have i1 : ((a.size : Int) != (b.size : Int)) = true := by rw [bne_iff_ne]; omega
    rw [if_neg (fun h => h1 h.1)] at hF
    simp only [Prod.mk.injEq] at hF
    obtain ⟨rfl, rfl⟩ := hF
    go_enter Try.func31, Try.ntmps31
    go_wp2
    refine bodyPost_ret (v := .tuple #[.string ByteArray.empty, .bool false]) (by simp [results, Try.results31, go_sem]; try rfl) rfl ?_
    exact ⟨rfl, Below.refl _ _⟩

set_option maxHeartbeats 1000000 in
theorem l7Check_c (s : ByteArray) (w : World) (hn : s.size ≤ 40) :
    Calls Try.prog 54 #[.string s] w fun e w' => e = .returned (.int .i64 (chk (bl s) : Nat)) ∧ w' = w := by
  obtain ⟨m, hm0⟩ : ∃ m, m = bl s := ⟨_, rfl⟩
  rw [← hm0]
  have HV : Hid (chk m = wsum m s.size % 251) := by show _ = _; unfold chk; rw [hm0, bl_length]
  have HM : Hid (m = bl s) := hm0
  generalize chk m = z at HV ⊢
  clear hm0
  go_enter Try.func54, Try.ntmps54
  go_wp2
  go_loop [3, 4] (fun nv iv => ∃ (k S : Nat), k ≤ s.size ∧ iv = .int .i64 k ∧ nv = .int .i64 S ∧ S ≤ 418200 ∧ Hid (S = wsum m k)) (fun _ iv => s.size - (intOf iv).toNat)
  case atStart => exact ⟨0, 0, Nat.zero_le _, rfl, rfl, by omega, rfl⟩
  case round =>
    obtain ⟨k, S, hk, rfl, rfl, hS, HS⟩ := hrel
    by_cases hlt : k < s.size
    · have hbb := byte_at s k hlt
      rw [← HM.out] at hbb
      have hb := bN_lt m k
      have HS2 : Hid (S + bN m k * (k + 1) = wsum m (k + 1)) := by show _ = _; rw [wsum, ← HS.out]
      have hS2 : S + bN m k * (k + 1) ≤ 418200 := by rw [HS2.out]; exact wsum_lt m (k + 1) (by omega)
      have HP : Hid (∃ p : Nat, bN m k * (k + 1) = p ∧ p ≤ 418200) := ⟨_, rfl, by omega⟩
      generalize bN m k = a at hbb hb HS2 hS2 HP
      have h0 : (0 : Int) ≤ (k : Int) := by omega
      have h1 : (k : Int) < (s.size : Int) := by omega
      obtain ⟨p, hp, hp2⟩ := HP.out
      have hpi : (a : Int) * ((k : Int) + 1) = (p : Int) := by rw [← hp]; simp
      have HP2 : Hid (a * (k + 1) = p) := hp
      clear HP hp
      rw [HP2.out] at hS2
      go_wp2
      go_round
      case rel => exact ⟨k + 1, S + p, by omega, by go_num, by go_num, by omega, by show _ = _; rw [← HP2.out]; exact HS2.out⟩
      case measure => simp [intOf]; omega
    · go_wp2
      go_ret
      obtain rfl : k = s.size := by omega
      refine ⟨ret_int ?_, rfl⟩
      rw [HV.out, ← HS.out]
      first | rfl | omega | (simp; omega)

theorem specCheck_c (s : ByteArray) (w : World) (hs : s.size ≤ 17592186044416) (z : Int) (fb : Bool) (hF : chkF s = (z, fb)) :
    Calls Try.prog 37 #[.string s] w fun e w' => e = .returned (.tuple #[.int .i64 z, .bool fb]) ∧ Below w.heap.size w w' := by
  unfold chkF at hF
  by_cases h2 : s.size ≤ 40
  · rw [if_pos h2] at hF
    simp only [Prod.mk.injEq] at hF
    obtain ⟨rfl, rfl⟩ := hF
    have i2 : ¬ (40 : Int) < (s.size : Int) := by omega
    have HT : Hid (∀ wx, Calls Try.prog 54 #[.string s] wx fun e w' => e = .returned (.int .i64 (chk (bl s) : Nat)) ∧ w' = wx) := fun wx => l7Check_c s wx h2
    generalize chk (bl s) = z at HT ⊢
    clear h2
    go_enter Try.func37, Try.ntmps37
    go_wp2_with fail
    refine (HT.out _).mono ?_
    rintro e w' ⟨rfl, hw⟩
    subst w'
    clear HT
    go_wp2
    refine bodyPost_ret (v := .tuple #[.int .i64 (z : Int), .bool true]) (by simp [results, Try.results37, go_sem]; try rfl) rfl ?_
    exact ⟨rfl, Below.refl _ _⟩
  · rw [if_neg h2] at hF
    simp only [Prod.mk.injEq] at hF
    obtain ⟨rfl, rfl⟩ := hF
    have i2 : (40 : Int) < (s.size : Int) := by omega
    go_enter Try.func37, Try.ntmps37
    go_wp2
    refine bodyPost_ret (v := .tuple #[.int .i64 0, .bool false]) (by simp [results, Try.results37, go_sem]; try rfl) rfl ?_
    exact ⟨rfl, Below.refl _ _⟩

theorem l7Body_c (s : ByteArray) (w : World) (hs : s.size ≤ 17592186044416) : Calls Try.prog 52 #[.string s] w fun e w' => e = .returned (.bool (decide (s.size < 16))) ∧ w' = w := by
  by_cases h : s.size < 16
  · have i1 : (s.size : Int) < 16 := by omega
    rw [decide_eq_true h]
    go_enter Try.func52, Try.ntmps52
    go_wp2
    go_ret
    exact ⟨ret_bool (by first | rfl | simp [i1] | (simp; omega)), rfl⟩
  · have i1 : ¬ (s.size : Int) < 16 := by omega
    rw [decide_eq_false h]
    go_enter Try.func52, Try.ntmps52
    go_wp2
    go_ret
    exact ⟨ret_bool (by first | rfl | simp [i1] | (simp; omega)), rfl⟩

theorem tx_app (a b : Bs) : tx a ++ tx b = tx (a ++ b) := ByteArray.mk_append_mk a b

set_option maxHeartbeats 1000000 in
theorem l7PadBody_c (s : ByteArray) (w : World) (hn : s.size < 16) :
    Calls Try.prog 53 #[.string s] w fun e w' => e = .returned (.string (tx (padB (bl s)))) ∧ Below w.heap.size w w' := by
  obtain ⟨n, hn0⟩ : ∃ n : Nat, n = 15 - s.size := ⟨_, rfl⟩
  obtain ⟨M, hmk, hrow⟩ := make_run n (by omega)
  have hmk' := hmk w
  have hcv := (hrow w).text n n (by simp [zeros])
  have HB : Hid (Below w.heap.size w (w.alloc (.cells M 5))) := balloc w _
  have HE : Hid (s ++ ByteArray.mk #[128] ++ tx (zeros n) = tx (padB (bl s))) := by
    show _ = _
    conv => lhs; rw [← tx_bl s]
    rw [show ByteArray.mk #[128] = tx [128] from rfl, tx_app, tx_app, hn0]
    unfold padB
    rw [bl_length]
  have hni : (15 : Int) - (s.size : Int) = (n : Int) := by omega
  have hz : (tx (zeros n)).size = n := zeros_size n
  generalize tx (padB (bl s)) = t at HE ⊢
  generalize tx (zeros n) = zt at HE hcv hz
  have h1 : s.size + 1 ≤ 9223372036854775807 := by omega
  have h2 : s.size + 1 + zt.size ≤ 9223372036854775807 := by omega
  have HZ : Hid (zt.size = n) := hz
  have HN : Hid (n = 15 - s.size) := hn0
  clear hrow hmk hn0 hz
  go_enter Try.func53, Try.ntmps53
  go_wp2
  go_ret
  exact ⟨by rw [← HE.out]; rfl, HB.out⟩

theorem specPadBody_c (s : ByteArray) (w : World) (hs : s.size ≤ 17592186044416) (t : ByteArray) (fb : Bool) (hF : padBF s = (t, fb)) :
    Calls Try.prog 25 #[.string s] w fun e w' => e = .returned (.tuple #[.string t, .bool fb]) ∧ Below w.heap.size w w' := by
  have HK : Hid (∀ wx, Calls Try.prog 52 #[.string s] wx fun e w' => e = .returned (.bool (decide (s.size < 16))) ∧ w' = wx) := fun wx => l7Body_c s wx hs
  unfold padBF at hF
  by_cases h2 : s.size < 16
  · rw [if_pos h2] at hF
    simp only [Prod.mk.injEq] at hF
    obtain ⟨rfl, rfl⟩ := hF
    rw [decide_eq_true h2] at HK
    have HT : Hid (∀ wx, Calls Try.prog 53 #[.string s] wx fun e w' => e = .returned (.string (tx (padB (bl s)))) ∧ Below wx.heap.size wx w') := fun wx => l7PadBody_c s wx h2
    generalize tx (padB (bl s)) = t at HT ⊢
    clear h2
    go_enter Try.func25, Try.ntmps25
    go_wp2_with (first | (go_at_call 52; refine (HK.out _).mono ?_; clear HK; rintro e w' ⟨rfl, hw⟩; subst w') | (go_at_call 53; refine (HT.out _).mono ?_; clear HT; rintro e w' ⟨rfl, hb⟩; have HB2 : Hid (Below w.heap.size w w') := hb; clear hb))
    refine bodyPost_ret (v := .tuple #[.string t, .bool true]) (by simp [results, Try.results25, go_sem]; try rfl) rfl ?_
    exact ⟨rfl, HB2.out⟩
  · rw [if_neg h2] at hF
    simp only [Prod.mk.injEq] at hF
    obtain ⟨rfl, rfl⟩ := hF
    rw [decide_eq_false h2] at HK
    clear h2
    go_enter Try.func25, Try.ntmps25
    go_wp2_with (first | (go_at_call 52; refine (HK.out _).mono ?_; clear HK; rintro e w' ⟨rfl, hw⟩; subst w'))
    refine bodyPost_ret (v := .tuple #[.string ByteArray.empty, .bool false]) (by simp [results, Try.results25, go_sem]; try rfl) rfl ?_
    exact ⟨rfl, Below.refl _ _⟩

set_option maxHeartbeats 1000000 in
theorem specUnpad_c (s : ByteArray) (w : World) (hs : s.size ≤ 17592186044416) (t : ByteArray) (fb : Bool) (hF : unpadF s = (t, fb)) :
    Calls Try.prog 28 #[.string s] w fun e w' => e = .returned (.tuple #[.string t, .bool fb]) ∧ Below w.heap.size w w' := by
  by_cases h : s.size = 16
  · have i1 : ((s.size : Int) != 16) = false := by rw [bne_eq_false_iff_eq]; omega
    rw [unpadF_at h] at hF
    have hsz : s.size = 16 := h
    have HF : Hid ((if (bl s).getD (lastP (bl s) 15) 0 = 128 then (tx ((bl s).take (lastP (bl s) 15)), true) else (ByteArray.empty, false)) = (t, fb)) := hF
    have HZ : Hid (s.size = 16) := h
    clear hF hsz h
    go_enter Try.func28, Try.ntmps28
    go_wp2
    go_loop [4] (fun v => ∃ p : Nat, p ≤ 15 ∧ v = .int .i64 p ∧ Hid (lastP (bl s) 15 = lastP (bl s) p)) (fun v => (intOf v).toNat)
    case atStart => exact ⟨15, by omega, by rw [HZ.out]; rfl, rfl⟩
    case round =>
      obtain ⟨p, hp, rfl, HP⟩ := hrel
      have hps : p < s.size := by have := HZ.out; omega
      have hb := byte_at s p hps
      have h1 : (0 : Int) ≤ (p : Int) := by omega
      have h2 : (p : Int) < (s.size : Int) := by omega
      by_cases h0 : p = 0
      · subst h0
        have HQ : Hid ((if bN (bl s) 0 = 128 then (tx ((bl s).take 0), true) else (ByteArray.empty, false)) = (t, fb)) := by
          show _ = _
          rw [← HF.out, HP.out]
          show _ = if (bl s).getD 0 0 = 128 then (tx ((bl s).take 0), true) else _
          by_cases e : (bl s).getD 0 0 = 128
          · rw [if_pos e, if_pos (by unfold bN; rw [e]; rfl)]
          · rw [if_neg e, if_neg (show ¬ bN (bl s) 0 = 128 from fun h => e (byte_eq h))]
        have HE : Hid (s.extract 0 0 = tx ((bl s).take 0)) := extract_take s 0
        have HSZ : Hid ((tx ((bl s).take 0)).size ≤ 1000) := by show _ ≤ _; rw [tx_take_size s 0 (by omega)]; omega
        generalize bN (bl s) 0 = b at hb HQ
        clear HF HP
        by_cases e : b = 128
        · have e1 : ((b : Int) != 128) = false := by rw [bne_eq_false_iff_eq]; omega
          have HQ2 := HQ.out
          rw [if_pos e] at HQ2
          simp only [Prod.mk.injEq] at HQ2
          obtain ⟨hq1, hq2⟩ := HQ2
          subst hq2
          have HT : Hid (t = ByteArray.empty) := hq1.symm.trans rfl
          clear hq1 HQ HE HSZ e
          go_wp2
          refine bodyPost_ret (v := .tuple #[.string ByteArray.empty, .bool true]) (by simp [results, Try.results28, go_sem]; try rfl) rfl ?_
          exact ⟨by rw [HT.out], Below.refl _ _⟩
        · have e1 : ((b : Int) != 128) = true := by rw [bne_iff_ne]; omega
          have HQ2 := HQ.out
          rw [if_neg e] at HQ2
          simp only [Prod.mk.injEq] at HQ2
          obtain ⟨rfl, rfl⟩ := HQ2
          clear HQ HE HSZ e
          go_wp2
          refine bodyPost_ret (v := .tuple #[.string ByteArray.empty, .bool false]) (by simp [results, Try.results28, go_sem]; try rfl) rfl ?_
          exact ⟨rfl, Below.refl _ _⟩
      · obtain ⟨q, rfl⟩ : ∃ q, p = q + 1 := ⟨p - 1, by omega⟩
        have h3 : (0 : Int) < ((q + 1 : Nat) : Int) := by omega
        by_cases hz : (bl s).getD (q + 1) 0 = 0
        · have hbz : bN (bl s) (q + 1) = 0 := by unfold bN; rw [hz]; rfl
          rw [hbz] at hb
          have HP2 : Hid (lastP (bl s) 15 = lastP (bl s) q) := by show _ = _; rw [HP.out, lastP, if_pos hz]
          clear hz hbz HP h0
          generalize hP : q + 1 = P at *
          have HPP : Hid (q + 1 = P) := hP
          clear hP
          go_wp2
          go_round
          case rel => exact ⟨q, by have := HPP.out; omega, by have := HPP.out; go_num, HP2⟩
          case measure => have := HPP.out; simp [intOf]; omega
        · have hbz : bN (bl s) (q + 1) ≠ 0 := fun h => hz (byte_eq h)
          have HP2 : Hid (lastP (bl s) 15 = q + 1) := by show _ = _; rw [HP.out, lastP, if_neg hz]
          have HQ : Hid ((if bN (bl s) (q + 1) = 128 then (tx ((bl s).take (q + 1)), true) else (ByteArray.empty, false)) = (t, fb)) := by
            show _ = _
            rw [← HF.out, HP2.out]
            by_cases e : (bl s).getD (q + 1) 0 = 128
            · rw [if_pos e, if_pos (by unfold bN; rw [e]; rfl)]
            · rw [if_neg e, if_neg (show ¬ bN (bl s) (q + 1) = 128 from fun h => e (byte_eq h))]
          have HE : Hid (s.extract 0 (q + 1) = tx ((bl s).take (q + 1))) := extract_take s (q + 1)
          have HSZ : Hid ((tx ((bl s).take (q + 1))).size ≤ 1000) := by show _ ≤ _; rw [tx_take_size s (q + 1) (by omega)]; omega
          generalize bN (bl s) (q + 1) = b at hb HQ hbz
          clear HF HP HP2 hz h0
          generalize q + 1 = P at *
          have e0 : ((b : Int) == 0) = false := by rw [beq_eq_false_iff_ne]; omega
          have h5 : (P : Int) ≤ (s.size : Int) := by omega
          by_cases e : b = 128
          · have e1 : ((b : Int) != 128) = false := by rw [bne_eq_false_iff_eq]; omega
            have HQ2 := HQ.out
            rw [if_pos e] at HQ2
            simp only [Prod.mk.injEq] at HQ2
            obtain ⟨hq1, hq2⟩ := HQ2
            subst hq2
            have hE := HE.out.trans hq1
            clear hq1
            clear HQ HE HSZ e hbz
            go_wp2
            refine bodyPost_ret (v := .tuple #[.string t, .bool true]) (by simp [results, Try.results28, go_sem]; try rfl) rfl ?_
            exact ⟨rfl, Below.refl _ _⟩
          · have e1 : ((b : Int) != 128) = true := by rw [bne_iff_ne]; omega
            have HQ2 := HQ.out
            rw [if_neg e] at HQ2
            simp only [Prod.mk.injEq] at HQ2
            obtain ⟨rfl, rfl⟩ := HQ2
            clear HQ HE HSZ e hbz
            go_wp2
            refine bodyPost_ret (v := .tuple #[.string ByteArray.empty, .bool false]) (by simp [results, Try.results28, go_sem]; try rfl) rfl ?_
            exact ⟨rfl, Below.refl _ _⟩
  · have i1 : ((s.size : Int) != 16) = true := by rw [bne_iff_ne]; omega
    rw [unpadF_not h] at hF
    simp only [Prod.mk.injEq] at hF
    obtain ⟨rfl, rfl⟩ := hF
    go_enter Try.func28, Try.ntmps28
    go_wp2
    refine bodyPost_ret (v := .tuple #[.string ByteArray.empty, .bool false]) (by simp [results, Try.results28, go_sem]; try rfl) rfl ?_
    exact ⟨rfl, Below.refl _ _⟩

end Go.Proofs.Ytnfoflijapbkdaa
