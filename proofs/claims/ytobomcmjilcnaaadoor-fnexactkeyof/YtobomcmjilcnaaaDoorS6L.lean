/- Chapter 6: logs, on both sides. -/
import Derived.Test.YtobomcmjilcnaaaDoorS6
namespace Go.Proofs.YtobomcmjilcnaaaDoor
set_option linter.unusedVariables false
set_option maxRecDepth 1000000
set_option linter.unusedSimpArgs false
open Go.RowKit

theorem pw4_step (k : Nat) : pw 4 k * 4 % 2999 = pw 4 (k + 1) := by rw [Int.mul_comm]; exact pw_step 4 k
theorem logF_hit {m : Int} {k f : Nat} (h : pw 4 k = m) : logF m k (f + 1) = k := by rw [logF, if_pos h]
theorem logF_miss {m : Int} {k f : Nat} (h : pw 4 k ≠ m) : logF m k (f + 1) = logF m (k + 1) f := by rw [logF, if_neg h]

set_option maxHeartbeats 1000000 in
theorem l6Log_c (m : Int) (N : Nat) (w : World) (hN : N ≤ 100) :
    Calls Tryd.prog 60 #[.int .i64 m, .int .i64 N] w fun e w' => e = .returned (.int .i64 (logA m N)) ∧ w' = w := by
  have hA : logA m N = logF m 0 (N + 1) := by unfold logA; rw [Int.toNat_natCast]
  have HA : Hid (logA m N = logF m 0 (N + 1)) := hA
  clear hA
  go_enter Tryd.func60, Tryd.ntmps60
  go_wp2
  go_loop [5, 6] (fun nv iv => ∃ (k : Nat) (r : Int), k ≤ N + 1 ∧ iv = .int .i64 k ∧ nv = .int .i64 r ∧ 0 ≤ r ∧ r < 2999 ∧ Hid (pw 4 k = r) ∧ Hid (logF m 0 (N + 1) = logF m k (N + 1 - k))) (fun _ iv => N + 1 - (intOf iv).toNat)
  case atStart => exact ⟨0, 1, Nat.zero_le _, rfl, rfl, by omega, by omega, pw_zero 4, rfl⟩
  case round =>
    obtain ⟨k, r, hk, rfl, rfl, r0, r1, HS, HL⟩ := hrel
    by_cases hlt : k ≤ N
    · have hle : (k : Int) ≤ (N : Int) := by omega
      have HF : Hid (N + 1 - k = (N - k) + 1) := by show _ = _; omega
      by_cases e : r = m
      · have he : (r == m) = true := by simpa using e
        have HE : Hid (r = m) := e
        clear e
        go_wp2
        go_ret
        refine ⟨ret_int ?_, rfl⟩
        rw [HA.out, HL.out, HF.out, logF_hit (HS.out.trans HE.out)]
      · have he : (r == m) = false := by simpa using e
        have HE : Hid (r ≠ m) := e
        clear e
        have HS2 : Hid (pw 4 (k + 1) = r * 4 % 2999) := by have := pw4_step k; rw [HS.out] at this; exact this.symm
        have HL2 : Hid (logF m 0 (N + 1) = logF m (k + 1) (N + 1 - (k + 1))) := by
          show _ = _
          rw [HL.out, HF.out, logF_miss (fun h => HE.out (HS.out.symm.trans h)), show N + 1 - (k + 1) = N - k by omega]
        go_wp2
        go_round
        case rel => exact ⟨k + 1, r * 4 % 2999, by omega, by go_num, rfl, by omega, by omega, HS2, HL2⟩
        case measure => simp [intOf]; omega
    · have hle : ¬ (k : Int) ≤ (N : Int) := by omega
      go_wp2
      go_ret
      refine ⟨ret_int ?_, rfl⟩
      rw [HA.out, HL.out, show N + 1 - k = 0 by omega]
      rfl

theorem logB_mem {m most : Int} (h : memB m = false) : logB m most = false := by simp only [logB, h, Bool.false_and]
theorem logB_most {m most : Int} (h : decide (0 ≤ most ∧ most ≤ 100) = false) : logB m most = false := by simp only [logB, h, Bool.false_and, Bool.and_false]
theorem logB_none {m most : Int} (h : logA m most < 0) : logB m most = false := by
  have : decide (0 ≤ logA m most) = false := decide_eq_false (by omega)
  simp only [logB, this, Bool.and_false]
theorem logB_some {m most : Int} (h1 : memB m = true) (h2 : 0 ≤ most ∧ most ≤ 100) (h : 0 ≤ logA m most) : logB m most = true := by
  simp only [logB, h1, decide_eq_true h2, decide_eq_true h, Bool.and_self]
theorem logI_no {m most : Int} (h : logB m most = false) : logI m most = 0 := by simp only [logI, h, Bool.false_eq_true, if_false]
theorem logI_yes {m most : Int} (h : logB m most = true) : logI m most = logA m most := by simp only [logI, h, if_true]

set_option maxHeartbeats 1000000 in
theorem specLog_c (m most : Int) (w : World) :
    Calls Tryd.prog 31 #[.int .i64 m, .int .i64 most] w fun e w' => e = .returned (.tuple #[.int .i64 (logI m most), .bool (logB m most)]) ∧ w' = w := by
  cases g0 : memB m
  · rw [logI_no (logB_mem g0), logB_mem g0]
    go_enter Tryd.func31, Tryd.ntmps31
    go_wp2_with (go_at_call 27; refine (specMember_c m _).mono ?_; rw [g0]; clear g0; rintro e w' ⟨rfl, hw⟩; subst w')
    refine bodyPost_ret (v := .tuple #[.int .i64 0, .bool false]) (by simp [results, Tryd.results31, go_sem]; try rfl) rfl ?_
    exact ⟨rfl, rfl⟩
  · cases g1 : decide (0 ≤ most ∧ most ≤ 100)
    · rw [logI_no (logB_most g1), logB_most g1]
      go_enter Tryd.func31, Tryd.ntmps31
      go_wp2_with (first | (go_at_call 27; refine (specMember_c m _).mono ?_; rw [g0]; clear g0; rintro e w' ⟨rfl, hw⟩; subst w') | (go_at_call 49; refine (l1In_c most 0 100 _).mono ?_; rw [g1]; clear g1; rintro e w' ⟨rfl, hw⟩; subst w'))
      refine bodyPost_ret (v := .tuple #[.int .i64 0, .bool false]) (by simp [results, Tryd.results31, go_sem]; try rfl) rfl ?_
      exact ⟨rfl, rfl⟩
    · have hm := of_decide_eq_true g1
      obtain ⟨N, rfl⟩ : ∃ N : Nat, most = N := ⟨most.toNat, by omega⟩
      have hL := fun wx => l6Log_c m N wx (by omega)
      by_cases h0 : logA m N < 0
      · rw [logI_no (logB_none h0), logB_none h0]
        generalize logA m N = a at hL h0
        have HL : Hid (∀ wx, Calls Tryd.prog 60 #[.int .i64 m, .int .i64 N] wx fun e w' => e = .returned (.int .i64 a) ∧ w' = wx) := hL
        clear hL
        go_enter Tryd.func31, Tryd.ntmps31
        go_wp2_with (first | (go_at_call 27; refine (specMember_c m _).mono ?_; rw [g0]; clear g0; rintro e w' ⟨rfl, hw⟩; subst w') | (go_at_call 49; refine (l1In_c N 0 100 _).mono ?_; rw [g1]; clear g1; rintro e w' ⟨rfl, hw⟩; subst w') | (go_at_call 60; refine (HL.out _).mono ?_; rintro e w' ⟨rfl, hw⟩; subst w'))
        refine bodyPost_ret (v := .tuple #[.int .i64 0, .bool false]) (by simp [results, Tryd.results31, go_sem]; try rfl) rfl ?_
        exact ⟨rfl, rfl⟩
      · have hs := logB_some g0 hm (show 0 ≤ logA m N by omega)
        rw [logI_yes hs, hs]
        clear hs
        generalize logA m N = a at hL h0 ⊢
        have HL : Hid (∀ wx, Calls Tryd.prog 60 #[.int .i64 m, .int .i64 N] wx fun e w' => e = .returned (.int .i64 a) ∧ w' = wx) := hL
        clear hL
        go_enter Tryd.func31, Tryd.ntmps31
        go_wp2_with (first | (go_at_call 27; refine (specMember_c m _).mono ?_; rw [g0]; clear g0; rintro e w' ⟨rfl, hw⟩; subst w') | (go_at_call 49; refine (l1In_c N 0 100 _).mono ?_; rw [g1]; clear g1; rintro e w' ⟨rfl, hw⟩; subst w') | (go_at_call 60; refine (HL.out _).mono ?_; rintro e w' ⟨rfl, hw⟩; subst w'))
        refine bodyPost_ret (v := .tuple #[.int .i64 a, .bool true]) (by simp [results, Tryd.results31, go_sem]; try rfl) rfl ?_
        exact ⟨rfl, rfl⟩

set_option maxHeartbeats 2000000 in
theorem implLog_c (m most : Int) (w : World) :
    Calls Tryd.prog 45 #[.int .i64 m, .int .i64 most] w fun e w' => e = .returned (.tuple #[.int .i64 (logI m most), .bool (logB m most)]) ∧ w' = w := by
  cases g0 : memB m
  · rw [logI_no (logB_mem g0), logB_mem g0]
    go_enter Tryd.func45, Tryd.ntmps45
    go_wp2_with (go_at_call 44; refine (implMember_c m _).mono ?_; rw [g0]; clear g0; rintro e w' ⟨rfl, hw⟩; subst w')
    refine bodyPost_ret (v := .tuple #[.int .i64 0, .bool false]) (by simp [results, Tryd.results45, go_sem]; try rfl) rfl ?_
    exact ⟨rfl, rfl⟩
  · by_cases hm0 : most < 0
    · have g1 : decide (0 ≤ most ∧ most ≤ 100) = false := decide_eq_false (by omega)
      rw [logI_no (logB_most g1), logB_most g1]
      clear g1
      go_enter Tryd.func45, Tryd.ntmps45
      go_wp2_with (go_at_call 44; refine (implMember_c m _).mono ?_; rw [g0]; clear g0; rintro e w' ⟨rfl, hw⟩; subst w')
      refine bodyPost_ret (v := .tuple #[.int .i64 0, .bool false]) (by simp [results, Tryd.results45, go_sem]; try rfl) rfl ?_
      exact ⟨rfl, rfl⟩
    · by_cases hm1 : 100 < most
      · have g1 : decide (0 ≤ most ∧ most ≤ 100) = false := decide_eq_false (by omega)
        rw [logI_no (logB_most g1), logB_most g1]
        clear g1
        go_enter Tryd.func45, Tryd.ntmps45
        go_wp2_with (go_at_call 44; refine (implMember_c m _).mono ?_; rw [g0]; clear g0; rintro e w' ⟨rfl, hw⟩; subst w')
        refine bodyPost_ret (v := .tuple #[.int .i64 0, .bool false]) (by simp [results, Tryd.results45, go_sem]; try rfl) rfl ?_
        exact ⟨rfl, rfl⟩
      · obtain ⟨N, rfl⟩ : ∃ N : Nat, most = N := ⟨most.toNat, by omega⟩
        have hN : N ≤ 100 := by omega
        have HA : Hid (logA m N = logF m 0 (N + 1)) := by show _ = _; unfold logA; rw [Int.toNat_natCast]
        have HG : Hid (memB m = true) := g0
        have HM : Hid (∀ wx, Calls Tryd.prog 44 #[.int .i64 m] wx fun e w' => e = .returned (.bool true) ∧ w' = wx) := fun wx => by have := implMember_c m wx; rw [g0] at this; exact this
        have HX : Hid (0 ≤ logA m N → logI m N = logA m N ∧ logB m N = true) := fun h => ⟨logI_yes (logB_some g0 ⟨by omega, by omega⟩ h), logB_some g0 ⟨by omega, by omega⟩ h⟩
        have HY : Hid (logA m N < 0 → logI m N = 0 ∧ logB m N = false) := fun h => ⟨logI_no (logB_none h), logB_none h⟩
        clear g0 hm0 hm1
        generalize logI m N = zi at HX HY ⊢
        generalize logB m N = zb at HX HY ⊢
        go_enter Tryd.func45, Tryd.ntmps45
        go_wp2_with (go_at_call 44; refine (HM.out _).mono ?_; rintro e w' ⟨rfl, hw⟩; subst w')
        go_loop [6, 21] (fun nv iv => ∃ (k : Nat) (r : Int), k ≤ N + 1 ∧ iv = .int .i64 k ∧ nv = .int .i64 r ∧ 0 ≤ r ∧ r < 2999 ∧ Hid (pw 4 k = r) ∧ Hid (logF m 0 (N + 1) = logF m k (N + 1 - k))) (fun _ iv => N + 1 - (intOf iv).toNat)
        case atStart => exact ⟨0, 1, Nat.zero_le _, rfl, rfl, by omega, by omega, pw_zero 4, rfl⟩
        case round =>
          obtain ⟨k, r, hk, rfl, rfl, r0, r1, HS, HL⟩ := hrel
          by_cases hlt : k ≤ N
          · have hle : (k : Int) < (N : Int) + 1 := by omega
            have HF : Hid (N + 1 - k = (N - k) + 1) := by show _ = _; omega
            by_cases e : r = m
            · have he : (r == m) = true := by simpa using e
              have HE : Hid (r = m) := e
              clear e
              have HV : Hid (logA m N = k) := by show _ = _; rw [HA.out, HL.out, HF.out, logF_hit (HS.out.trans HE.out)]
              go_wp2
              refine bodyPost_ret (v := .tuple #[.int .i64 k, .bool true]) (by simp [results, Tryd.results45, go_sem]; try rfl) rfl ?_
              have hx := HX.out (by rw [HV.out]; omega)
              exact ⟨by rw [hx.1, hx.2, HV.out], rfl⟩
            · have he : (r == m) = false := by simpa using e
              have HE : Hid (r ≠ m) := e
              clear e
              have HS2 : Hid (pw 4 (k + 1) = r * 4 % 2999) := by have := pw4_step k; rw [HS.out] at this; exact this.symm
              have HL2 : Hid (logF m 0 (N + 1) = logF m (k + 1) (N + 1 - (k + 1))) := by
                show _ = _
                rw [HL.out, HF.out, logF_miss (fun h => HE.out (HS.out.symm.trans h)), show N + 1 - (k + 1) = N - k by omega]
              go_wp2_with (go_at_call 36; refine (timesRests_c r 4 _ r0 r1 (by omega) (by omega)).mono ?_; rintro e w' ⟨rfl, hw⟩; subst w')
              go_round
              case rel => exact ⟨k + 1, r * 4 % 2999, by omega, by go_num, rfl, by omega, by omega, HS2, HL2⟩
              case measure => simp [intOf]; omega
          · have hle : ¬ (k : Int) < (N : Int) + 1 := by omega
            have HV : Hid (logA m N = -1) := by
              show _ = _
              rw [HA.out, HL.out, show N + 1 - k = 0 by omega]
              rfl
            go_wp2
            refine bodyPost_ret (v := .tuple #[.int .i64 0, .bool false]) (by simp [results, Tryd.results45, go_sem]; try rfl) rfl ?_
            have hx := HY.out (by rw [HV.out]; omega)
            exact ⟨by rw [hx.1, hx.2], rfl⟩

end Go.Proofs.YtobomcmjilcnaaaDoor
