/- The law FnShared, walked: true at every two texts. -/
import Derived.Test.YtlgnipfhchonbaaDoorD2
import Derived.Test.YtlgnipfhchonbaaDoorPwM
import Derived.Test.YtlgnipfhchonbaaDoorAgain
namespace Go.Proofs.YtlgnipfhchonbaaDoor
set_option linter.unusedVariables false
set_option linter.unusedSimpArgs false
open Go.RowKit

set_option maxHeartbeats 16000000 in
set_option maxRecDepth 1000000 in
theorem lawFnShared_c (ao : Option Addr) (n c : Nat) (bo : Option Addr) (m d : Nat) (w : World) (hn : n ≤ 9223372036854775807) (hm : m ≤ 9223372036854775807) (h1 : CodeOk w w.heap.size ao n) (h2 : CodeOk w w.heap.size bo m) (ht : Tab w) :
    Calls Tryd.prog 3 #[.slice ao n c, .slice bo m d] w fun e w' => e = .returned (.bool true) ∧ Below w.heap.size w w' := by
  by_cases hl : 1048576 < wrap64 ((n : Int) + (m : Int))
  · clear h1 h2 ht
    go_enter Tryd.func3, Tryd.ntmps3
    go_wp2
    go_ret
    exact ⟨rfl, Below.refl _ _⟩
  have hnm : ¬ 1048576 < wrap64 ((n : Int) + (m : Int)) := hl
  have HN : Hid (CodeOk w w.heap.size ao n) := h1
  have HM : Hid (CodeOk w w.heap.size bo m) := h2
  have HTb : Hid (Tab w) := ht
  have HB : Hid (Below w.heap.size w w) := Below.refl _ _
  have tok1 : True := trivial
  clear h1 h2 ht hl
  go_enter Tryd.func3, Tryd.ntmps3
  go_wp2_with (first | (go_at_call 8; have _t := tok1; refine (drawPublicFor_c ao n c _ (by omega) (HN.out.later HB.out HB.out.size)).mono ?_; rintro e w1 ⟨a, rfl, hb1⟩; replace HB : Hid (Below w.heap.size w w1) := hb1; clear hb1 tok1 _t) | (go_at_call 8; refine (drawPublicFor_c bo m d _ (by omega) (HM.out.later HB.out HB.out.size)).mono ?_; rintro e w2 ⟨b, rfl, hb2⟩; replace HB : Hid (Below w.heap.size w w2) := HB.out.trans (hb2.mono HB.out.size); clear hb2))
  have HTa : Hid (Tab w2) := HTb.out.keep HB.out
  have HIa : Hid (Calls Tryd.prog 9 #[.int .i64 a] w2 fun e w' => e = .returned (.tuple #[.int .i64 (if secB a = true then pw 4 a.toNat else 0), .bool (secB a)]) ∧ w' = w2) := implPublic_c a w2 HTa.out
  have HIb : Hid (Calls Tryd.prog 9 #[.int .i64 b] w2 fun e w' => e = .returned (.tuple #[.int .i64 (if secB b = true then pw 4 b.toNat else 0), .bool (secB b)]) ∧ w' = w2) := implPublic_c b w2 HTa.out
  have HSa : Hid (Calls Tryd.prog 10 #[.int .i64 a] w2 fun e w' => e = .returned (.tuple #[.int .i64 (if secB a = true then pw 4 a.toNat else 0), .bool (secB a)]) ∧ w' = w2) := specPublic_c a w2
  have tok2 : True := trivial
  cases hA : secB a
  · rw [hA, if_neg (by simp)] at HIa HSa
    generalize (if secB b = true then pw 4 b.toNat else 0) = y at HIb
    generalize secB b = B at HIb
    clear hA
    go_wp2_with (first | (go_at_call 9; have _t := tok2; refine HIa.out.mono ?_; clear tok2 _t; rintro e w' ⟨rfl, hw⟩; subst w') | (go_at_call 9; refine HIb.out.mono ?_; rintro e w' ⟨rfl, hw⟩; subst w') | (go_at_call 10; refine HSa.out.mono ?_; rintro e w' ⟨rfl, hw⟩; subst w'))
    go_wp2_with (go_at_call 13; refine (drawPowerOf_c bo m d _ (by omega) (HM.out.later HB.out HB.out.size)).mono ?_; rintro e w4 ⟨nn, kk, rfl, hb4⟩; replace HB : Hid (Below w.heap.size w w4) := HB.out.trans (hb4.mono HB.out.size); clear hb4)
    have HiP : Hid (∀ wx, Calls Tryd.prog 14 #[.int .i64 nn, .int .i64 kk] wx fun e w' => e = .returned (.tuple #[.int .i64 (if powB nn kk = true then pw nn kk.toNat else 0), .bool (powB nn kk)]) ∧ w' = wx) := fun wx => implPower_c nn kk wx
    have HiI : Hid (∀ wx, Calls Tryd.prog 16 #[.int .i64 nn] wx fun e w' => e = .returned (.tuple #[.int .i64 (if unitB nn = true then pw nn 2997 else 0), .bool (unitB nn)]) ∧ w' = wx) := fun wx => implInverse_c nn wx
    have HsP : Hid (∀ wx, Calls Tryd.prog 15 #[.int .i64 nn, .int .i64 kk] wx fun e w' => e = .returned (.tuple #[.int .i64 (if powB nn kk = true then pw nn kk.toNat else 0), .bool (powB nn kk)]) ∧ w' = wx) := fun wx => specPower_c nn kk wx
    have HsI : Hid (∀ wx, Calls Tryd.prog 17 #[.int .i64 nn] wx fun e w' => e = .returned (.tuple #[.int .i64 (if unitB nn = true then pw nn 2997 else 0), .bool (unitB nn)]) ∧ w' = wx) := fun wx => specInverse_c nn wx
    have hPU : powB nn kk = true → unitB nn = true := fun h => by simp only [powB, unitB, Bool.and_eq_true, decide_eq_true_eq] at h ⊢; exact h.1
    have HFE : Hid (unitB nn = true → (∀ wx, Calls Tryd.prog 14 #[.int .i64 nn, .int .i64 2998] wx fun e w' => e = .returned (.tuple #[.int .i64 1, .bool true]) ∧ w' = wx)) := fun h wx => by
      have hu : 1 ≤ nn ∧ nn ≤ 2998 := by simpa [unitB] using h
      have hp : powB nn 2998 = true := by simp [powB, hu.1, hu.2]
      have hc := implPower_c nn 2998 wx
      rw [hp, if_pos rfl] at hc
      rw [show ((2998 : Int)).toNat = 2998 from rfl, pw_ferm hu.1 hu.2] at hc
      exact hc
    generalize (if powB nn kk = true then pw nn kk.toNat else 0) = r1 at HiP HsP
    generalize powB nn kk = p1 at HiP HsP hPU
    cases hu : unitB nn
    · rw [hu] at HiI HsI hPU
      have hp1 : p1 = false := by cases p1 with
        | false => rfl
        | true => exact absurd (hPU rfl) (by simp)
      subst hp1
      rw [if_neg (by simp)] at HiI HsI
      clear hPU hu HFE
      go_wp2_with (first | (go_at_call 14; refine (HiP.out _).mono ?_; rintro e w' ⟨rfl, hw⟩; subst w') | (go_at_call 15; refine (HsP.out _).mono ?_; rintro e w' ⟨rfl, hw⟩; subst w') | (go_at_call 16; refine (HiI.out _).mono ?_; rintro e w' ⟨rfl, hw⟩; subst w') | (go_at_call 17; refine (HsI.out _).mono ?_; rintro e w' ⟨rfl, hw⟩; subst w'))
      go_wp2_with (go_at_call 18; refine (drawSharedOf_c bo m d _ (by omega) (HM.out.later HB.out HB.out.size)).mono ?_; rintro e w5 ⟨u, v, rfl, hb5⟩; replace HB : Hid (Below w.heap.size w w5) := HB.out.trans (hb5.mono HB.out.size); clear hb5)
      have HI4 : Hid (∀ wx, Calls Tryd.prog 11 #[.int .i64 u, .int .i64 v] wx fun e w' => e = .returned (.tuple #[.int .i64 (if shareB u v = true then pw v u.toNat else 0), .bool (shareB u v)]) ∧ w' = wx) := fun wx => implShared_c u v wx
      have HS4 : Hid (∀ wx, Calls Tryd.prog 19 #[.int .i64 u, .int .i64 v] wx fun e w' => e = .returned (.tuple #[.int .i64 (if shareB u v = true then pw v u.toNat else 0), .bool (shareB u v)]) ∧ w' = wx) := fun wx => specShared_c u v wx
      generalize (if shareB u v = true then pw v u.toNat else 0) = r4 at HI4 HS4
      generalize shareB u v = p4 at HI4 HS4
      go_wp2_with (first | (go_at_call 11; refine (HI4.out _).mono ?_; rintro e w' ⟨rfl, hw⟩; subst w') | (go_at_call 19; refine (HS4.out _).mono ?_; rintro e w' ⟨rfl, hw⟩; subst w') | (go_at_call 20; refine (drawIsMember_c bo m d _ (by omega) (HM.out.later HB.out HB.out.size)).mono ?_; rintro e w6 ⟨q, rfl, hb6⟩; replace HB : Hid (Below w.heap.size w w6) := HB.out.trans (hb6.mono HB.out.size); clear hb6) | (go_at_call 12; refine (implMember_c _ _).mono ?_; rintro e w' ⟨rfl, hw⟩; subst w') | (go_at_call 21; refine (specMember_c _ _).mono ?_; rintro e w' ⟨rfl, hw⟩; subst w'))
      go_ret
      exact ⟨by simp, HB.out⟩
    · rw [hu] at HiI HsI
      rw [if_pos rfl] at HiI HsI
      have hur : 1 ≤ nn ∧ nn ≤ 2998 := by simpa [unitB] using hu
      obtain ⟨hu1, hu2⟩ := hur
      have hinv : nn * pw nn 2997 % 2999 = 1 := pw_inv hu1 hu2
      have hi0 := pw_lo nn 2997
      have hi1 := pw_hi nn 2997
      have HF1 : Hid (∀ wx, Calls Tryd.prog 14 #[.int .i64 nn, .int .i64 2998] wx fun e w' => e = .returned (.tuple #[.int .i64 1, .bool true]) ∧ w' = wx) := HFE.out hu
      generalize pw nn 2997 = ii at HiI HsI hinv hi0 hi1
      have hbd : 0 ≤ nn * ii ∧ nn * ii ≤ 8994000 := ⟨Int.mul_nonneg (by omega) hi0, by have := Int.mul_le_mul (show nn ≤ 2998 by omega) (show ii ≤ 3000 by omega) hi0 (by omega); omega⟩
      obtain ⟨hbd1, hbd2⟩ := hbd
      generalize hpr : nn * ii = pr at hinv hbd1 hbd2
      clear hPU hu HFE
      cases p1
      · have tok9 : True := trivial
        go_wp2_with (first | (go_at_call 14; refine (HiP.out _).mono ?_; rintro e w' ⟨rfl, hw⟩; subst w') | (go_at_call 15; refine (HsP.out _).mono ?_; rintro e w' ⟨rfl, hw⟩; subst w') | (go_at_call 16; refine (HiI.out _).mono ?_; rintro e w' ⟨rfl, hw⟩; subst w') | (go_at_call 17; refine (HsI.out _).mono ?_; rintro e w' ⟨rfl, hw⟩; subst w'))
        go_wp2_with (go_at_call 18; refine (drawSharedOf_c bo m d _ (by omega) (HM.out.later HB.out HB.out.size)).mono ?_; rintro e w5 ⟨u, v, rfl, hb5⟩; replace HB : Hid (Below w.heap.size w w5) := HB.out.trans (hb5.mono HB.out.size); clear hb5)
        have HI4 : Hid (∀ wx, Calls Tryd.prog 11 #[.int .i64 u, .int .i64 v] wx fun e w' => e = .returned (.tuple #[.int .i64 (if shareB u v = true then pw v u.toNat else 0), .bool (shareB u v)]) ∧ w' = wx) := fun wx => implShared_c u v wx
        have HS4 : Hid (∀ wx, Calls Tryd.prog 19 #[.int .i64 u, .int .i64 v] wx fun e w' => e = .returned (.tuple #[.int .i64 (if shareB u v = true then pw v u.toNat else 0), .bool (shareB u v)]) ∧ w' = wx) := fun wx => specShared_c u v wx
        generalize (if shareB u v = true then pw v u.toNat else 0) = r4 at HI4 HS4
        generalize shareB u v = p4 at HI4 HS4
        go_wp2_with (first | (go_at_call 11; refine (HI4.out _).mono ?_; rintro e w' ⟨rfl, hw⟩; subst w') | (go_at_call 19; refine (HS4.out _).mono ?_; rintro e w' ⟨rfl, hw⟩; subst w') | (go_at_call 20; refine (drawIsMember_c bo m d _ (by omega) (HM.out.later HB.out HB.out.size)).mono ?_; rintro e w6 ⟨q, rfl, hb6⟩; replace HB : Hid (Below w.heap.size w w6) := HB.out.trans (hb6.mono HB.out.size); clear hb6) | (go_at_call 12; refine (implMember_c _ _).mono ?_; rintro e w' ⟨rfl, hw⟩; subst w') | (go_at_call 21; refine (specMember_c _ _).mono ?_; rintro e w' ⟨rfl, hw⟩; subst w'))
        go_ret
        exact ⟨by simp, HB.out⟩
      · have tok9 : True := trivial
        go_wp2_with (first | (go_at_call 14; have _t := tok9; refine (HiP.out _).mono ?_; clear tok9 _t; rintro e w' ⟨rfl, hw⟩; subst w') | (go_at_call 14; refine (HF1.out _).mono ?_; rintro e w' ⟨rfl, hw⟩; subst w') | (go_at_call 15; refine (HsP.out _).mono ?_; rintro e w' ⟨rfl, hw⟩; subst w') | (go_at_call 16; refine (HiI.out _).mono ?_; rintro e w' ⟨rfl, hw⟩; subst w') | (go_at_call 17; refine (HsI.out _).mono ?_; rintro e w' ⟨rfl, hw⟩; subst w'))
        go_wp2_with (go_at_call 18; refine (drawSharedOf_c bo m d _ (by omega) (HM.out.later HB.out HB.out.size)).mono ?_; rintro e w5 ⟨u, v, rfl, hb5⟩; replace HB : Hid (Below w.heap.size w w5) := HB.out.trans (hb5.mono HB.out.size); clear hb5)
        have HI4 : Hid (∀ wx, Calls Tryd.prog 11 #[.int .i64 u, .int .i64 v] wx fun e w' => e = .returned (.tuple #[.int .i64 (if shareB u v = true then pw v u.toNat else 0), .bool (shareB u v)]) ∧ w' = wx) := fun wx => implShared_c u v wx
        have HS4 : Hid (∀ wx, Calls Tryd.prog 19 #[.int .i64 u, .int .i64 v] wx fun e w' => e = .returned (.tuple #[.int .i64 (if shareB u v = true then pw v u.toNat else 0), .bool (shareB u v)]) ∧ w' = wx) := fun wx => specShared_c u v wx
        generalize (if shareB u v = true then pw v u.toNat else 0) = r4 at HI4 HS4
        generalize shareB u v = p4 at HI4 HS4
        go_wp2_with (first | (go_at_call 11; refine (HI4.out _).mono ?_; rintro e w' ⟨rfl, hw⟩; subst w') | (go_at_call 19; refine (HS4.out _).mono ?_; rintro e w' ⟨rfl, hw⟩; subst w') | (go_at_call 20; refine (drawIsMember_c bo m d _ (by omega) (HM.out.later HB.out HB.out.size)).mono ?_; rintro e w6 ⟨q, rfl, hb6⟩; replace HB : Hid (Below w.heap.size w w6) := HB.out.trans (hb6.mono HB.out.size); clear hb6) | (go_at_call 12; refine (implMember_c _ _).mono ?_; rintro e w' ⟨rfl, hw⟩; subst w') | (go_at_call 21; refine (specMember_c _ _).mono ?_; rintro e w' ⟨rfl, hw⟩; subst w'))
        go_ret
        exact ⟨by simp, HB.out⟩
  · rw [hA, if_pos rfl] at HIa HSa
    cases hB : secB b
    · rw [hB, if_neg (by simp)] at HIb
      generalize pw 4 a.toNat = x at HIa HSa
      clear hA hB
      go_wp2_with (first | (go_at_call 9; have _t := tok2; refine HIa.out.mono ?_; clear tok2 _t; rintro e w' ⟨rfl, hw⟩; subst w') | (go_at_call 9; refine HIb.out.mono ?_; rintro e w' ⟨rfl, hw⟩; subst w') | (go_at_call 10; refine HSa.out.mono ?_; rintro e w' ⟨rfl, hw⟩; subst w'))
      go_wp2_with (go_at_call 13; refine (drawPowerOf_c bo m d _ (by omega) (HM.out.later HB.out HB.out.size)).mono ?_; rintro e w4 ⟨nn, kk, rfl, hb4⟩; replace HB : Hid (Below w.heap.size w w4) := HB.out.trans (hb4.mono HB.out.size); clear hb4)
      have HiP : Hid (∀ wx, Calls Tryd.prog 14 #[.int .i64 nn, .int .i64 kk] wx fun e w' => e = .returned (.tuple #[.int .i64 (if powB nn kk = true then pw nn kk.toNat else 0), .bool (powB nn kk)]) ∧ w' = wx) := fun wx => implPower_c nn kk wx
      have HiI : Hid (∀ wx, Calls Tryd.prog 16 #[.int .i64 nn] wx fun e w' => e = .returned (.tuple #[.int .i64 (if unitB nn = true then pw nn 2997 else 0), .bool (unitB nn)]) ∧ w' = wx) := fun wx => implInverse_c nn wx
      have HsP : Hid (∀ wx, Calls Tryd.prog 15 #[.int .i64 nn, .int .i64 kk] wx fun e w' => e = .returned (.tuple #[.int .i64 (if powB nn kk = true then pw nn kk.toNat else 0), .bool (powB nn kk)]) ∧ w' = wx) := fun wx => specPower_c nn kk wx
      have HsI : Hid (∀ wx, Calls Tryd.prog 17 #[.int .i64 nn] wx fun e w' => e = .returned (.tuple #[.int .i64 (if unitB nn = true then pw nn 2997 else 0), .bool (unitB nn)]) ∧ w' = wx) := fun wx => specInverse_c nn wx
      have hPU : powB nn kk = true → unitB nn = true := fun h => by simp only [powB, unitB, Bool.and_eq_true, decide_eq_true_eq] at h ⊢; exact h.1
      have HFE : Hid (unitB nn = true → (∀ wx, Calls Tryd.prog 14 #[.int .i64 nn, .int .i64 2998] wx fun e w' => e = .returned (.tuple #[.int .i64 1, .bool true]) ∧ w' = wx)) := fun h wx => by
        have hu : 1 ≤ nn ∧ nn ≤ 2998 := by simpa [unitB] using h
        have hp : powB nn 2998 = true := by simp [powB, hu.1, hu.2]
        have hc := implPower_c nn 2998 wx
        rw [hp, if_pos rfl] at hc
        rw [show ((2998 : Int)).toNat = 2998 from rfl, pw_ferm hu.1 hu.2] at hc
        exact hc
      generalize (if powB nn kk = true then pw nn kk.toNat else 0) = r1 at HiP HsP
      generalize powB nn kk = p1 at HiP HsP hPU
      cases hu : unitB nn
      · rw [hu] at HiI HsI hPU
        have hp1 : p1 = false := by cases p1 with
          | false => rfl
          | true => exact absurd (hPU rfl) (by simp)
        subst hp1
        rw [if_neg (by simp)] at HiI HsI
        clear hPU hu HFE
        go_wp2_with (first | (go_at_call 14; refine (HiP.out _).mono ?_; rintro e w' ⟨rfl, hw⟩; subst w') | (go_at_call 15; refine (HsP.out _).mono ?_; rintro e w' ⟨rfl, hw⟩; subst w') | (go_at_call 16; refine (HiI.out _).mono ?_; rintro e w' ⟨rfl, hw⟩; subst w') | (go_at_call 17; refine (HsI.out _).mono ?_; rintro e w' ⟨rfl, hw⟩; subst w'))
        go_wp2_with (go_at_call 18; refine (drawSharedOf_c bo m d _ (by omega) (HM.out.later HB.out HB.out.size)).mono ?_; rintro e w5 ⟨u, v, rfl, hb5⟩; replace HB : Hid (Below w.heap.size w w5) := HB.out.trans (hb5.mono HB.out.size); clear hb5)
        have HI4 : Hid (∀ wx, Calls Tryd.prog 11 #[.int .i64 u, .int .i64 v] wx fun e w' => e = .returned (.tuple #[.int .i64 (if shareB u v = true then pw v u.toNat else 0), .bool (shareB u v)]) ∧ w' = wx) := fun wx => implShared_c u v wx
        have HS4 : Hid (∀ wx, Calls Tryd.prog 19 #[.int .i64 u, .int .i64 v] wx fun e w' => e = .returned (.tuple #[.int .i64 (if shareB u v = true then pw v u.toNat else 0), .bool (shareB u v)]) ∧ w' = wx) := fun wx => specShared_c u v wx
        generalize (if shareB u v = true then pw v u.toNat else 0) = r4 at HI4 HS4
        generalize shareB u v = p4 at HI4 HS4
        go_wp2_with (first | (go_at_call 11; refine (HI4.out _).mono ?_; rintro e w' ⟨rfl, hw⟩; subst w') | (go_at_call 19; refine (HS4.out _).mono ?_; rintro e w' ⟨rfl, hw⟩; subst w') | (go_at_call 20; refine (drawIsMember_c bo m d _ (by omega) (HM.out.later HB.out HB.out.size)).mono ?_; rintro e w6 ⟨q, rfl, hb6⟩; replace HB : Hid (Below w.heap.size w w6) := HB.out.trans (hb6.mono HB.out.size); clear hb6) | (go_at_call 12; refine (implMember_c _ _).mono ?_; rintro e w' ⟨rfl, hw⟩; subst w') | (go_at_call 21; refine (specMember_c _ _).mono ?_; rintro e w' ⟨rfl, hw⟩; subst w'))
        go_ret
        exact ⟨by simp, HB.out⟩
      · rw [hu] at HiI HsI
        rw [if_pos rfl] at HiI HsI
        have hur : 1 ≤ nn ∧ nn ≤ 2998 := by simpa [unitB] using hu
        obtain ⟨hu1, hu2⟩ := hur
        have hinv : nn * pw nn 2997 % 2999 = 1 := pw_inv hu1 hu2
        have hi0 := pw_lo nn 2997
        have hi1 := pw_hi nn 2997
        have HF1 : Hid (∀ wx, Calls Tryd.prog 14 #[.int .i64 nn, .int .i64 2998] wx fun e w' => e = .returned (.tuple #[.int .i64 1, .bool true]) ∧ w' = wx) := HFE.out hu
        generalize pw nn 2997 = ii at HiI HsI hinv hi0 hi1
        have hbd : 0 ≤ nn * ii ∧ nn * ii ≤ 8994000 := ⟨Int.mul_nonneg (by omega) hi0, by have := Int.mul_le_mul (show nn ≤ 2998 by omega) (show ii ≤ 3000 by omega) hi0 (by omega); omega⟩
        obtain ⟨hbd1, hbd2⟩ := hbd
        generalize hpr : nn * ii = pr at hinv hbd1 hbd2
        clear hPU hu HFE
        cases p1
        · have tok9 : True := trivial
          go_wp2_with (first | (go_at_call 14; refine (HiP.out _).mono ?_; rintro e w' ⟨rfl, hw⟩; subst w') | (go_at_call 15; refine (HsP.out _).mono ?_; rintro e w' ⟨rfl, hw⟩; subst w') | (go_at_call 16; refine (HiI.out _).mono ?_; rintro e w' ⟨rfl, hw⟩; subst w') | (go_at_call 17; refine (HsI.out _).mono ?_; rintro e w' ⟨rfl, hw⟩; subst w'))
          go_wp2_with (go_at_call 18; refine (drawSharedOf_c bo m d _ (by omega) (HM.out.later HB.out HB.out.size)).mono ?_; rintro e w5 ⟨u, v, rfl, hb5⟩; replace HB : Hid (Below w.heap.size w w5) := HB.out.trans (hb5.mono HB.out.size); clear hb5)
          have HI4 : Hid (∀ wx, Calls Tryd.prog 11 #[.int .i64 u, .int .i64 v] wx fun e w' => e = .returned (.tuple #[.int .i64 (if shareB u v = true then pw v u.toNat else 0), .bool (shareB u v)]) ∧ w' = wx) := fun wx => implShared_c u v wx
          have HS4 : Hid (∀ wx, Calls Tryd.prog 19 #[.int .i64 u, .int .i64 v] wx fun e w' => e = .returned (.tuple #[.int .i64 (if shareB u v = true then pw v u.toNat else 0), .bool (shareB u v)]) ∧ w' = wx) := fun wx => specShared_c u v wx
          generalize (if shareB u v = true then pw v u.toNat else 0) = r4 at HI4 HS4
          generalize shareB u v = p4 at HI4 HS4
          go_wp2_with (first | (go_at_call 11; refine (HI4.out _).mono ?_; rintro e w' ⟨rfl, hw⟩; subst w') | (go_at_call 19; refine (HS4.out _).mono ?_; rintro e w' ⟨rfl, hw⟩; subst w') | (go_at_call 20; refine (drawIsMember_c bo m d _ (by omega) (HM.out.later HB.out HB.out.size)).mono ?_; rintro e w6 ⟨q, rfl, hb6⟩; replace HB : Hid (Below w.heap.size w w6) := HB.out.trans (hb6.mono HB.out.size); clear hb6) | (go_at_call 12; refine (implMember_c _ _).mono ?_; rintro e w' ⟨rfl, hw⟩; subst w') | (go_at_call 21; refine (specMember_c _ _).mono ?_; rintro e w' ⟨rfl, hw⟩; subst w'))
          go_ret
          exact ⟨by simp, HB.out⟩
        · have tok9 : True := trivial
          go_wp2_with (first | (go_at_call 14; have _t := tok9; refine (HiP.out _).mono ?_; clear tok9 _t; rintro e w' ⟨rfl, hw⟩; subst w') | (go_at_call 14; refine (HF1.out _).mono ?_; rintro e w' ⟨rfl, hw⟩; subst w') | (go_at_call 15; refine (HsP.out _).mono ?_; rintro e w' ⟨rfl, hw⟩; subst w') | (go_at_call 16; refine (HiI.out _).mono ?_; rintro e w' ⟨rfl, hw⟩; subst w') | (go_at_call 17; refine (HsI.out _).mono ?_; rintro e w' ⟨rfl, hw⟩; subst w'))
          go_wp2_with (go_at_call 18; refine (drawSharedOf_c bo m d _ (by omega) (HM.out.later HB.out HB.out.size)).mono ?_; rintro e w5 ⟨u, v, rfl, hb5⟩; replace HB : Hid (Below w.heap.size w w5) := HB.out.trans (hb5.mono HB.out.size); clear hb5)
          have HI4 : Hid (∀ wx, Calls Tryd.prog 11 #[.int .i64 u, .int .i64 v] wx fun e w' => e = .returned (.tuple #[.int .i64 (if shareB u v = true then pw v u.toNat else 0), .bool (shareB u v)]) ∧ w' = wx) := fun wx => implShared_c u v wx
          have HS4 : Hid (∀ wx, Calls Tryd.prog 19 #[.int .i64 u, .int .i64 v] wx fun e w' => e = .returned (.tuple #[.int .i64 (if shareB u v = true then pw v u.toNat else 0), .bool (shareB u v)]) ∧ w' = wx) := fun wx => specShared_c u v wx
          generalize (if shareB u v = true then pw v u.toNat else 0) = r4 at HI4 HS4
          generalize shareB u v = p4 at HI4 HS4
          go_wp2_with (first | (go_at_call 11; refine (HI4.out _).mono ?_; rintro e w' ⟨rfl, hw⟩; subst w') | (go_at_call 19; refine (HS4.out _).mono ?_; rintro e w' ⟨rfl, hw⟩; subst w') | (go_at_call 20; refine (drawIsMember_c bo m d _ (by omega) (HM.out.later HB.out HB.out.size)).mono ?_; rintro e w6 ⟨q, rfl, hb6⟩; replace HB : Hid (Below w.heap.size w w6) := HB.out.trans (hb6.mono HB.out.size); clear hb6) | (go_at_call 12; refine (implMember_c _ _).mono ?_; rintro e w' ⟨rfl, hw⟩; subst w') | (go_at_call 21; refine (specMember_c _ _).mono ?_; rintro e w' ⟨rfl, hw⟩; subst w'))
          go_ret
          exact ⟨by simp, HB.out⟩
    · rw [hB, if_pos rfl] at HIb
      have hAr : decide (1 ≤ a ∧ a ≤ 1498) = true := hA
      have hBr : decide (1 ≤ b ∧ b ≤ 1498) = true := hB
      have hs1 : shareB a (pw 4 b.toNat) = true := by simp only [shareB, hAr, mem_pw4, Bool.and_self]
      have hs2 : shareB b (pw 4 a.toNat) = true := by simp only [shareB, hBr, mem_pw4, Bool.and_self]
      have HQ1 : Hid (∀ wx, Calls Tryd.prog 11 #[.int .i64 a, .int .i64 (pw 4 b.toNat)] wx fun e w' => e = .returned (.tuple #[.int .i64 (pw (pw 4 b.toNat) a.toNat), .bool true]) ∧ w' = wx) := fun wx => by have h := implShared_c a (pw 4 b.toNat) wx; rw [hs1, if_pos rfl] at h; exact h
      have HQ2 : Hid (∀ wx, Calls Tryd.prog 11 #[.int .i64 b, .int .i64 (pw 4 a.toNat)] wx fun e w' => e = .returned (.tuple #[.int .i64 (pw (pw 4 b.toNat) a.toNat), .bool true]) ∧ w' = wx) := fun wx => by have h := implShared_c b (pw 4 a.toNat) wx; rw [hs2, if_pos rfl, pw_comm] at h; exact h
      have HQ3 : Hid (∀ wx, Calls Tryd.prog 12 #[.int .i64 (pw 4 a.toNat)] wx fun e w' => e = .returned (.bool true) ∧ w' = wx) := fun wx => by have h := implMember_c (pw 4 a.toNat) wx; rw [mem_pw4] at h; exact h
      have HQ4 : Hid (∀ wx, Calls Tryd.prog 12 #[.int .i64 (pw (pw 4 b.toNat) a.toNat)] wx fun e w' => e = .returned (.bool true) ∧ w' = wx) := fun wx => by have h := implMember_c (pw (pw 4 b.toNat) a.toNat) wx; rw [mem_pw (mem_pw4 _)] at h; exact h
      generalize pw (pw 4 b.toNat) a.toNat = s at HQ1 HQ2 HQ4
      generalize pw 4 a.toNat = x at HIa HSa HQ2 HQ3
      generalize pw 4 b.toNat = y at HIb HQ1
      clear hA hB hAr hBr hs1 hs2
      have tok3 : True := trivial
      have tok4 : True := trivial
      go_wp2_with (first | (go_at_call 9; have _t := tok2; refine HIa.out.mono ?_; clear tok2 _t; rintro e w' ⟨rfl, hw⟩; subst w') | (go_at_call 9; refine HIb.out.mono ?_; rintro e w' ⟨rfl, hw⟩; subst w') | (go_at_call 10; refine HSa.out.mono ?_; rintro e w' ⟨rfl, hw⟩; subst w') | (go_at_call 11; have _t := tok3; refine (HQ1.out _).mono ?_; clear tok3 _t; rintro e w' ⟨rfl, hw⟩; subst w') | (go_at_call 11; refine (HQ2.out _).mono ?_; rintro e w' ⟨rfl, hw⟩; subst w') | (go_at_call 12; have _t := tok4; refine (HQ3.out _).mono ?_; clear tok4 _t; rintro e w' ⟨rfl, hw⟩; subst w') | (go_at_call 12; refine (HQ4.out _).mono ?_; rintro e w' ⟨rfl, hw⟩; subst w'))
      go_wp2_with (go_at_call 13; refine (drawPowerOf_c bo m d _ (by omega) (HM.out.later HB.out HB.out.size)).mono ?_; rintro e w4 ⟨nn, kk, rfl, hb4⟩; replace HB : Hid (Below w.heap.size w w4) := HB.out.trans (hb4.mono HB.out.size); clear hb4)
      have HiP : Hid (∀ wx, Calls Tryd.prog 14 #[.int .i64 nn, .int .i64 kk] wx fun e w' => e = .returned (.tuple #[.int .i64 (if powB nn kk = true then pw nn kk.toNat else 0), .bool (powB nn kk)]) ∧ w' = wx) := fun wx => implPower_c nn kk wx
      have HiI : Hid (∀ wx, Calls Tryd.prog 16 #[.int .i64 nn] wx fun e w' => e = .returned (.tuple #[.int .i64 (if unitB nn = true then pw nn 2997 else 0), .bool (unitB nn)]) ∧ w' = wx) := fun wx => implInverse_c nn wx
      have HsP : Hid (∀ wx, Calls Tryd.prog 15 #[.int .i64 nn, .int .i64 kk] wx fun e w' => e = .returned (.tuple #[.int .i64 (if powB nn kk = true then pw nn kk.toNat else 0), .bool (powB nn kk)]) ∧ w' = wx) := fun wx => specPower_c nn kk wx
      have HsI : Hid (∀ wx, Calls Tryd.prog 17 #[.int .i64 nn] wx fun e w' => e = .returned (.tuple #[.int .i64 (if unitB nn = true then pw nn 2997 else 0), .bool (unitB nn)]) ∧ w' = wx) := fun wx => specInverse_c nn wx
      have hPU : powB nn kk = true → unitB nn = true := fun h => by simp only [powB, unitB, Bool.and_eq_true, decide_eq_true_eq] at h ⊢; exact h.1
      have HFE : Hid (unitB nn = true → (∀ wx, Calls Tryd.prog 14 #[.int .i64 nn, .int .i64 2998] wx fun e w' => e = .returned (.tuple #[.int .i64 1, .bool true]) ∧ w' = wx)) := fun h wx => by
        have hu : 1 ≤ nn ∧ nn ≤ 2998 := by simpa [unitB] using h
        have hp : powB nn 2998 = true := by simp [powB, hu.1, hu.2]
        have hc := implPower_c nn 2998 wx
        rw [hp, if_pos rfl] at hc
        rw [show ((2998 : Int)).toNat = 2998 from rfl, pw_ferm hu.1 hu.2] at hc
        exact hc
      generalize (if powB nn kk = true then pw nn kk.toNat else 0) = r1 at HiP HsP
      generalize powB nn kk = p1 at HiP HsP hPU
      cases hu : unitB nn
      · rw [hu] at HiI HsI hPU
        have hp1 : p1 = false := by cases p1 with
          | false => rfl
          | true => exact absurd (hPU rfl) (by simp)
        subst hp1
        rw [if_neg (by simp)] at HiI HsI
        clear hPU hu HFE
        go_wp2_with (first | (go_at_call 14; refine (HiP.out _).mono ?_; rintro e w' ⟨rfl, hw⟩; subst w') | (go_at_call 15; refine (HsP.out _).mono ?_; rintro e w' ⟨rfl, hw⟩; subst w') | (go_at_call 16; refine (HiI.out _).mono ?_; rintro e w' ⟨rfl, hw⟩; subst w') | (go_at_call 17; refine (HsI.out _).mono ?_; rintro e w' ⟨rfl, hw⟩; subst w'))
        go_wp2_with (go_at_call 18; refine (drawSharedOf_c bo m d _ (by omega) (HM.out.later HB.out HB.out.size)).mono ?_; rintro e w5 ⟨u, v, rfl, hb5⟩; replace HB : Hid (Below w.heap.size w w5) := HB.out.trans (hb5.mono HB.out.size); clear hb5)
        have HI4 : Hid (∀ wx, Calls Tryd.prog 11 #[.int .i64 u, .int .i64 v] wx fun e w' => e = .returned (.tuple #[.int .i64 (if shareB u v = true then pw v u.toNat else 0), .bool (shareB u v)]) ∧ w' = wx) := fun wx => implShared_c u v wx
        have HS4 : Hid (∀ wx, Calls Tryd.prog 19 #[.int .i64 u, .int .i64 v] wx fun e w' => e = .returned (.tuple #[.int .i64 (if shareB u v = true then pw v u.toNat else 0), .bool (shareB u v)]) ∧ w' = wx) := fun wx => specShared_c u v wx
        generalize (if shareB u v = true then pw v u.toNat else 0) = r4 at HI4 HS4
        generalize shareB u v = p4 at HI4 HS4
        go_wp2_with (first | (go_at_call 11; refine (HI4.out _).mono ?_; rintro e w' ⟨rfl, hw⟩; subst w') | (go_at_call 19; refine (HS4.out _).mono ?_; rintro e w' ⟨rfl, hw⟩; subst w') | (go_at_call 20; refine (drawIsMember_c bo m d _ (by omega) (HM.out.later HB.out HB.out.size)).mono ?_; rintro e w6 ⟨q, rfl, hb6⟩; replace HB : Hid (Below w.heap.size w w6) := HB.out.trans (hb6.mono HB.out.size); clear hb6) | (go_at_call 12; refine (implMember_c _ _).mono ?_; rintro e w' ⟨rfl, hw⟩; subst w') | (go_at_call 21; refine (specMember_c _ _).mono ?_; rintro e w' ⟨rfl, hw⟩; subst w'))
        go_ret
        exact ⟨by simp, HB.out⟩
      · rw [hu] at HiI HsI
        rw [if_pos rfl] at HiI HsI
        have hur : 1 ≤ nn ∧ nn ≤ 2998 := by simpa [unitB] using hu
        obtain ⟨hu1, hu2⟩ := hur
        have hinv : nn * pw nn 2997 % 2999 = 1 := pw_inv hu1 hu2
        have hi0 := pw_lo nn 2997
        have hi1 := pw_hi nn 2997
        have HF1 : Hid (∀ wx, Calls Tryd.prog 14 #[.int .i64 nn, .int .i64 2998] wx fun e w' => e = .returned (.tuple #[.int .i64 1, .bool true]) ∧ w' = wx) := HFE.out hu
        generalize pw nn 2997 = ii at HiI HsI hinv hi0 hi1
        have hbd : 0 ≤ nn * ii ∧ nn * ii ≤ 8994000 := ⟨Int.mul_nonneg (by omega) hi0, by have := Int.mul_le_mul (show nn ≤ 2998 by omega) (show ii ≤ 3000 by omega) hi0 (by omega); omega⟩
        obtain ⟨hbd1, hbd2⟩ := hbd
        generalize hpr : nn * ii = pr at hinv hbd1 hbd2
        clear hPU hu HFE
        cases p1
        · have tok9 : True := trivial
          go_wp2_with (first | (go_at_call 14; refine (HiP.out _).mono ?_; rintro e w' ⟨rfl, hw⟩; subst w') | (go_at_call 15; refine (HsP.out _).mono ?_; rintro e w' ⟨rfl, hw⟩; subst w') | (go_at_call 16; refine (HiI.out _).mono ?_; rintro e w' ⟨rfl, hw⟩; subst w') | (go_at_call 17; refine (HsI.out _).mono ?_; rintro e w' ⟨rfl, hw⟩; subst w'))
          go_wp2_with (go_at_call 18; refine (drawSharedOf_c bo m d _ (by omega) (HM.out.later HB.out HB.out.size)).mono ?_; rintro e w5 ⟨u, v, rfl, hb5⟩; replace HB : Hid (Below w.heap.size w w5) := HB.out.trans (hb5.mono HB.out.size); clear hb5)
          have HI4 : Hid (∀ wx, Calls Tryd.prog 11 #[.int .i64 u, .int .i64 v] wx fun e w' => e = .returned (.tuple #[.int .i64 (if shareB u v = true then pw v u.toNat else 0), .bool (shareB u v)]) ∧ w' = wx) := fun wx => implShared_c u v wx
          have HS4 : Hid (∀ wx, Calls Tryd.prog 19 #[.int .i64 u, .int .i64 v] wx fun e w' => e = .returned (.tuple #[.int .i64 (if shareB u v = true then pw v u.toNat else 0), .bool (shareB u v)]) ∧ w' = wx) := fun wx => specShared_c u v wx
          generalize (if shareB u v = true then pw v u.toNat else 0) = r4 at HI4 HS4
          generalize shareB u v = p4 at HI4 HS4
          go_wp2_with (first | (go_at_call 11; refine (HI4.out _).mono ?_; rintro e w' ⟨rfl, hw⟩; subst w') | (go_at_call 19; refine (HS4.out _).mono ?_; rintro e w' ⟨rfl, hw⟩; subst w') | (go_at_call 20; refine (drawIsMember_c bo m d _ (by omega) (HM.out.later HB.out HB.out.size)).mono ?_; rintro e w6 ⟨q, rfl, hb6⟩; replace HB : Hid (Below w.heap.size w w6) := HB.out.trans (hb6.mono HB.out.size); clear hb6) | (go_at_call 12; refine (implMember_c _ _).mono ?_; rintro e w' ⟨rfl, hw⟩; subst w') | (go_at_call 21; refine (specMember_c _ _).mono ?_; rintro e w' ⟨rfl, hw⟩; subst w'))
          go_ret
          exact ⟨by simp, HB.out⟩
        · have tok9 : True := trivial
          go_wp2_with (first | (go_at_call 14; have _t := tok9; refine (HiP.out _).mono ?_; clear tok9 _t; rintro e w' ⟨rfl, hw⟩; subst w') | (go_at_call 14; refine (HF1.out _).mono ?_; rintro e w' ⟨rfl, hw⟩; subst w') | (go_at_call 15; refine (HsP.out _).mono ?_; rintro e w' ⟨rfl, hw⟩; subst w') | (go_at_call 16; refine (HiI.out _).mono ?_; rintro e w' ⟨rfl, hw⟩; subst w') | (go_at_call 17; refine (HsI.out _).mono ?_; rintro e w' ⟨rfl, hw⟩; subst w'))
          go_wp2_with (go_at_call 18; refine (drawSharedOf_c bo m d _ (by omega) (HM.out.later HB.out HB.out.size)).mono ?_; rintro e w5 ⟨u, v, rfl, hb5⟩; replace HB : Hid (Below w.heap.size w w5) := HB.out.trans (hb5.mono HB.out.size); clear hb5)
          have HI4 : Hid (∀ wx, Calls Tryd.prog 11 #[.int .i64 u, .int .i64 v] wx fun e w' => e = .returned (.tuple #[.int .i64 (if shareB u v = true then pw v u.toNat else 0), .bool (shareB u v)]) ∧ w' = wx) := fun wx => implShared_c u v wx
          have HS4 : Hid (∀ wx, Calls Tryd.prog 19 #[.int .i64 u, .int .i64 v] wx fun e w' => e = .returned (.tuple #[.int .i64 (if shareB u v = true then pw v u.toNat else 0), .bool (shareB u v)]) ∧ w' = wx) := fun wx => specShared_c u v wx
          generalize (if shareB u v = true then pw v u.toNat else 0) = r4 at HI4 HS4
          generalize shareB u v = p4 at HI4 HS4
          go_wp2_with (first | (go_at_call 11; refine (HI4.out _).mono ?_; rintro e w' ⟨rfl, hw⟩; subst w') | (go_at_call 19; refine (HS4.out _).mono ?_; rintro e w' ⟨rfl, hw⟩; subst w') | (go_at_call 20; refine (drawIsMember_c bo m d _ (by omega) (HM.out.later HB.out HB.out.size)).mono ?_; rintro e w6 ⟨q, rfl, hb6⟩; replace HB : Hid (Below w.heap.size w w6) := HB.out.trans (hb6.mono HB.out.size); clear hb6) | (go_at_call 12; refine (implMember_c _ _).mono ?_; rintro e w' ⟨rfl, hw⟩; subst w') | (go_at_call 21; refine (specMember_c _ _).mono ?_; rintro e w' ⟨rfl, hw⟩; subst w'))
          go_ret
          exact ⟨by simp, HB.out⟩

end Go.Proofs.YtlgnipfhchonbaaDoor
