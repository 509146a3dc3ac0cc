/- MixText of the program: the contract. -/
import Derived.Test.YtnfoflijapbkdaaTS4
import Derived.Test.YtnfoflijapbkdaaTR4
namespace Go.Proofs.Ytnfoflijapbkdaa
set_option linter.unusedVariables false
set_option maxRecDepth 1000000
set_option linter.unusedSimpArgs false
open Go.RowKit

set_option maxHeartbeats 1000000 in
theorem implMixT_at (ao : Option Addr) (n c S0 : Nat) (s : ByteArray) (xs : List Int) (w : World) (hx : xs.length = n) (hk : keysB xs = true) (hS : S0 < 65536) (hp : pairsB s = true) (hr : Rd w ao xs) :
    Calls Try.prog 69 #[.slice ao n c, .int .i64 S0, .string s] w fun e w' => e = .returned (.tuple #[.string (strOfNums (mixO (nums xs) S0 s (s.size / 2))), .bool true]) ∧ Below w.heap.size w w' := by
  obtain ⟨h40, hev⟩ : s.size ≤ 40 ∧ s.size % 2 = 0 := by simpa [pairsB] using hp
  have h8 := (keysB_parts hk).1
  have HK2 : Hid (∀ wx, wx = w → Calls Try.prog 76 #[.slice ao n c] wx fun e w' => e = .returned (.bool true) ∧ w' = wx) := fun wx h => by
    have := areKeys_c ao n c xs wx hx (by omega) (by rw [h]; exact hr); rw [hk] at this; exact this
  have HB2 : Hid (∀ wx, Calls Try.prog 46 #[.int .i64 S0] wx fun e w' => e = .returned (.bool true) ∧ w' = wx) := fun wx => by
    have := isBlock_c (S0 : Int) wx; rw [show blockB (S0 : Int) = true by unfold blockB; exact decide_eq_true (by omega)] at this; exact this
  have HP2 : Hid (∀ wx, Calls Try.prog 77 #[.string s] wx fun e w' => e = .returned (.bool true) ∧ w' = wx) := fun wx => by
    have := isPairs_c s wx (by omega); rw [hp] at this; exact this
  have HRO : Hid (∀ wx, wx = w → Calls Try.prog 78 #[.slice ao n c] wx fun e w' => ∃ a' c', e = .returned (.slice a' n c') ∧ RdR 84 w' a' (nums xs) ∧ Below wx.heap.size wx w') := fun wx h => roundsOf_c ao n c xs wx hx hk (by rw [h]; exact hr)
  have HTH : Hid (∀ a' c' (B : Nat) wx, B < 65536 → RdR 84 wx a' (nums xs) → Calls Try.prog 79 #[.slice a' n c', .int .i64 B] wx fun e w' => e = .returned (.int .i64 (mixN (nums xs) B : Nat)) ∧ Below wx.heap.size wx w') := fun a' c' B wx hB h => by
    have := thruF_c a' n c' B (nums xs) wx (by simp [nums_length, hx]) (by omega) hB (by
      intro k hk'
      have hk' : k ∈ nums xs := by simpa using hk'
      obtain ⟨y, hy, rfl⟩ := List.mem_map.1 hk'
      have h3 := List.all_eq_true.1 (keysB_parts hk).2 y hy
      simp only [inB, decide_eq_true_eq] at h3
      omega) h
    skip
    exact this
  have h40i : (s.size : Int) ≤ 40 := by omega
  have HEV : Hid (s.size % 2 = 0) := hev
  clear hx hk hr hp hev h8
  go_enter Try.func69, Try.ntmps69
  go_wp2_with (first | (go_at_call 76; refine (HK2.out _ rfl).mono ?_; clear HK2; rintro e w' ⟨rfl, hw⟩; subst w') | (go_at_call 46; refine (HB2.out _).mono ?_; clear HB2; rintro e w' ⟨rfl, hw⟩; subst w') | (go_at_call 77; refine (HP2.out _).mono ?_; clear HP2; rintro e w' ⟨rfl, hw⟩; subst w') | (go_at_call 78; refine (HRO.out _ rfl).mono ?_; clear HRO; rintro e w1 ⟨a1, c1, rfl, hrd, hb1⟩; have HRD : Hid (RdR 84 w1 a1 (nums xs)) := hrd; have HB1 : Hid (Below w.heap.size w w1) := hb1; clear hrd hb1))
  go_loopw [1, 9, 10] (fun sv v i wr => ∃ (j p st : Nat), Hid (p = 2 * j) ∧ p ≤ s.size ∧ i = .int .i64 p ∧ sv = .int .i64 st ∧ st < 65536 ∧ Hid (st = mixS (nums xs) S0 s j) ∧ Hid (OwnU wr w1.heap.size v (mixO (nums xs) S0 s j)) ∧ Hid (Below w1.heap.size w1 wr)) (fun _ _ i _ => s.size - (intOf i).toNat)
  case atStart => exact ⟨0, 0, S0, rfl, Nat.zero_le _, rfl, rfl, hS, rfl, World.ownsRow_nil _ _ _ _, Below.refl _ _⟩
  case round =>
    obtain ⟨j, p, st, hpj, hps, rfl, rfl, hst, hS', hO, hB⟩ := hrel
    by_cases hlt : p < s.size
    · have hp2 : p + 1 < s.size := by have := hpj.out; have := HEV.out; omega
      obtain ⟨P, hP⟩ : ∃ P, P = pairN s p := ⟨_, rfl⟩
      have hPl : P < 65536 := by rw [hP]; exact pairN_lt _ _
      have hpa := fun wx => pairAt_c s p wx h40 hp2
      rw [← hP] at hpa
      obtain ⟨X, hX⟩ : ∃ X, X = P ^^^ st := ⟨_, rfl⟩
      have hXl : X < 65536 := by rw [hX]; exact xor_lt hPl hst
      have hxor : bits BinOp.xor IntKind.i64 (P : Int) st = (X : Int) := by
        have := i64_xor hPl hst
        rw [← hX] at this
        exact this
      have hthr := fun a' c' wx h => HTH.out a' c' X wx hXl h
      have hZl := mixN_lt (ks := nums xs) hXl
      have HZ : Hid (mixS (nums xs) S0 s (j + 1) = mixN (nums xs) X) := by show _ = _; rw [mixS, hX, hP, hpj.out, ← hS'.out]
      have HN : Hid (mixO (nums xs) S0 s (j + 1) = mixO (nums xs) S0 s j ++ two (mixN (nums xs) X)) := by show _ = _; rw [mixO, HZ.out]
      have HLn : Hid ((mixO (nums xs) S0 s j).length ≤ 100) := by show _ ≤ _; rw [mixO_length]; have := hpj.out; omega
      generalize mixN (nums xs) X = Z at hthr hZl HZ HN
      clear hX hP hS' hPl
      go_wp2_with fail
      refine (hpa _).mono ?_
      rintro e w2 ⟨rfl, hb2⟩
      have HB2 : Hid (Below w1.heap.size w1 w2) := hB.out.trans (hb2.mono hB.out.size)
      have HO2 : Hid (OwnU w2 w1.heap.size u9 (mixO (nums xs) S0 s j)) := ownsRow_later hO.out hb2
      clear hb2 hO hB hpa
      go_wp2_with fail
      refine (hthr _ _ _ (HRD.out.later HB2.out)).mono ?_
      rintro e w3 ⟨rfl, hb3⟩
      have HB3 : Hid (Below w1.heap.size w1 w3) := HB2.out.trans (hb3.mono HB2.out.size)
      have HO3 : Hid (OwnU w3 w1.heap.size u9 (mixO (nums xs) S0 s j)) := ownsRow_later HO2.out hb3
      clear hb3 HO2 HB2 hthr
      go_wp2_with fail
      refine (appendPair_c u9 Z w1.heap.size _ _ hZl HLn.out HB3.out.size HO3.out).mono ?_
      rintro e w4 ⟨v', rfl, ho4, hb4⟩
      have HB4 : Hid (Below w1.heap.size w1 w4) := HB3.out.trans hb4
      have HO4 : Hid (OwnU w4 w1.heap.size v' (mixO (nums xs) S0 s j ++ two Z)) := ho4
      clear ho4 hb4 HB3 HO3
      go_wp2
      go_roundw
      case rel => exact ⟨j + 1, p + 2, Z, by show _ = _; have := hpj.out; omega, by omega, by go_num, rfl, hZl, HZ.out.symm, by show OwnU _ _ _ _; rw [HN.out]; exact HO4.out, HB4⟩
      case measure => simp [intOf]; omega
    · have HJ : Hid (s.size / 2 = j) := by show _ = _; have := hpj.out; omega
      have hcv := hO.out.text
      have HO2 : Hid (mixO (nums xs) S0 s (s.size / 2) = mixO (nums xs) S0 s j) := by show _ = _; rw [HJ.out]
      generalize hgo : strOfNums (mixO (nums xs) S0 s j) = txt at hcv
      have HG : Hid (strOfNums (mixO (nums xs) S0 s (s.size / 2)) = txt) := by show _ = _; rw [HO2.out]; exact hgo
      have hge : (s.size : Int) ≤ (p : Int) := by omega
      clear hgo
      go_wp2
      refine bodyPost_ret (v := .tuple #[.string txt, .bool true]) (by simp [results, Try.results69, go_sem]; try rfl) rfl ?_
      exact ⟨by rw [HG.out], HB1.out.trans (hB.out.mono HB1.out.size)⟩

theorem implMixT_c (ao : Option Addr) (n c : Nat) (x : Int) (s : ByteArray) (xs : List Int) (w : World) (hx : xs.length = n) (hn : n ≤ 17592186044416) (hm : s.size ≤ 17592186044416) (hr : Rd w ao xs) (t : ByteArray) (fb : Bool) (hF : mixTF xs x s = (t, fb)) :
    Calls Try.prog 69 #[.slice ao n c, .int .i64 x, .string s] w fun e w' => e = .returned (.tuple #[.string t, .bool fb]) ∧ Below w.heap.size w w' := by
  unfold mixTF at hF
  by_cases h : textG xs x s = true
  · rw [if_pos h] at hF
    simp only [Prod.mk.injEq] at hF
    obtain ⟨rfl, rfl⟩ := hF
    obtain ⟨h1, h2, h3⟩ := textG_parts h
    have hx2 : 0 ≤ x ∧ x ≤ 65535 := by simpa [blockB] using h2
    obtain ⟨B, rfl⟩ : ∃ B : Nat, x = B := ⟨x.toNat, by omega⟩
    simp only [Int.toNat_natCast]
    exact implMixT_at ao n c B s xs w hx h1 (by omega) h3 hr
  · rw [if_neg h] at hF
    simp only [Prod.mk.injEq] at hF
    obtain ⟨rfl, rfl⟩ := hF
    have HK2 : Hid (∀ wx, wx = w → Calls Try.prog 76 #[.slice ao n c] wx fun e w' => e = .returned (.bool (keysB xs)) ∧ w' = wx) := fun wx h => areKeys_c ao n c xs wx hx hn (by rw [h]; exact hr)
    have HB2 : Hid (∀ wx, Calls Try.prog 46 #[.int .i64 x] wx fun e w' => e = .returned (.bool (blockB x)) ∧ w' = wx) := fun wx => isBlock_c x wx
    have HP2 : Hid (∀ wx, Calls Try.prog 77 #[.string s] wx fun e w' => e = .returned (.bool (pairsB s)) ∧ w' = wx) := fun wx => isPairs_c s wx hm
    unfold textG at h
    cases h1 : keysB xs with
    | false =>
      rw [h1] at HK2
      clear h h1
      go_enter Try.func69, Try.ntmps69
      go_wp2_with ((go_at_call 76; refine (HK2.out _ rfl).mono ?_; clear HK2; rintro e w' ⟨rfl, hw⟩; subst w'))
      refine bodyPost_ret (v := .tuple #[.string ByteArray.empty, .bool false]) (by simp [results, Try.results69, go_sem]; try rfl) rfl ?_
      exact ⟨rfl, Below.refl _ _⟩
    | true =>
      rw [h1] at HK2 h
      cases h2 : blockB x with
      | false =>
        rw [h2] at HB2
        clear h h1 h2
        go_enter Try.func69, Try.ntmps69
        go_wp2_with (first | (go_at_call 76; refine (HK2.out _ rfl).mono ?_; clear HK2; rintro e w' ⟨rfl, hw⟩; subst w') | (go_at_call 46; refine (HB2.out _).mono ?_; clear HB2; rintro e w' ⟨rfl, hw⟩; subst w'))
        refine bodyPost_ret (v := .tuple #[.string ByteArray.empty, .bool false]) (by simp [results, Try.results69, go_sem]; try rfl) rfl ?_
        exact ⟨rfl, Below.refl _ _⟩
      | true =>
        rw [h2] at HB2 h
        have h3 : pairsB s = false := by simpa using h
        rw [h3] at HP2
        clear h h1 h2 h3
        go_enter Try.func69, Try.ntmps69
        go_wp2_with (first | (go_at_call 76; refine (HK2.out _ rfl).mono ?_; clear HK2; rintro e w' ⟨rfl, hw⟩; subst w') | (go_at_call 46; refine (HB2.out _).mono ?_; clear HB2; rintro e w' ⟨rfl, hw⟩; subst w') | (go_at_call 77; refine (HP2.out _).mono ?_; clear HP2; rintro e w' ⟨rfl, hw⟩; subst w'))
        refine bodyPost_ret (v := .tuple #[.string ByteArray.empty, .bool false]) (by simp [results, Try.results69, go_sem]; try rfl) rfl ?_
        exact ⟨rfl, Below.refl _ _⟩

end Go.Proofs.Ytnfoflijapbkdaa
