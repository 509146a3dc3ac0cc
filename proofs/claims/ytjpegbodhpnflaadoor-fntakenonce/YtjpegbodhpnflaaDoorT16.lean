/- Chapter 16: GoodWindow of the specification. -/
import Derived.Test.YtjpegbodhpnflaaDoorS16
namespace Go.Proofs.YtjpegbodhpnflaaDoor
set_option linter.unusedVariables false
set_option maxRecDepth 1000000
set_option linter.unusedSimpArgs false
open Go.RowKit

theorem and1_i64 (v : Nat) (h : v < 65536) : bits BinOp.and IntKind.i64 (v : Int) 1 = ((v % 2 : Nat) : Int) := by
  have h1 : (BitVec.ofInt 64 (v : Int)).toNat = v := by
    rw [BitVec.ofInt_natCast, BitVec.toNat_ofNat]; exact Nat.mod_eq_of_lt (by omega)
  show IntKind.i64.wrap ((BitVec.ofInt 64 (v : Int) &&& BitVec.ofInt 64 1).toNat : Int) = _
  rw [BitVec.toNat_and, h1, show (BitVec.ofInt 64 1).toNat = 1 from rfl, Nat.and_one_is_mod, IntKind.wrap_i64]
  omega

theorem shr_nat (b k : Nat) : ((b : Int) / 2 ^ k) = ((b / 2 ^ k : Nat) : Int) := by
  have : ((2 : Int) ^ k) = ((2 ^ k : Nat) : Int) := by norm_cast
  rw [this]; rfl

theorem bitAt {b : Nat} (hb : b < 65536) (k : Nat) : bits BinOp.and IntKind.i64 ((b : Int) / 2 ^ k) 1 = if b.testBit k = true then 1 else 0 := by
  rw [shr_nat]
  rw [and1_i64 _ (Nat.lt_of_le_of_lt (Nat.div_le_self _ _) hb)]
  have : b.testBit k = decide (b / 2 ^ k % 2 = 1) := Nat.testBit_eq_decide_div_mod_eq
  rw [this]
  by_cases h : b / 2 ^ k % 2 = 1
  · rw [h]; simp
  · rw [show b / 2 ^ k % 2 = 0 by omega]; simp

set_option maxHeartbeats 1000000 in
theorem specGood_c (t x : Int) (w : World) (hx64 : -9223372036854775808 ≤ x ∧ x ≤ 9223372036854775807) (ht64 : -9223372036854775808 ≤ t ∧ t ≤ 9223372036854775807) :
    Calls Tryd.prog 21 #[.agg #[.int .i64 t, .int .i64 x]] w fun e w' => e = .returned (.bool (goodWn t x)) ∧ Below w.heap.size w w' := by
  have HB : Hid (Below w.heap.size w (w.alloc (.cells #[.int .i64 t, .int .i64 x] 26))) := balloc w _
  have q1 : Hid (∀ wx, Calls Tryd.prog 51 #[.int .i64 t, .int .i64 0, .int .i64 100000] wx fun e w' => e = .returned (.bool (decide (0 ≤ t ∧ t ≤ 100000))) ∧ w' = wx) := fun wx => l1In_c t 0 100000 wx
  have q2 : Hid (∀ wx, Calls Tryd.prog 51 #[.int .i64 x, .int .i64 0, .int .i64 65535] wx fun e w' => e = .returned (.bool (decide (0 ≤ x ∧ x ≤ 65535))) ∧ w' = wx) := fun wx => l1In_c x 0 65535 wx
  by_cases h1 : 0 ≤ t ∧ t ≤ 100000
  case neg =>
    rw [show goodWn t x = false from decide_eq_false (fun h => h1 ⟨h.2.1, h.2.2.1⟩)]
    rw [decide_eq_false h1] at q1
    clear h1
    go_enter Tryd.func21, Tryd.ntmps21
    go_wp2_with (go_at_call 51; refine (q1.out _).mono ?_; clear q1; rintro e w1 ⟨rfl, hw⟩; subst w1)
    go_ret
    exact ⟨rfl, HB.out⟩
  by_cases h2 : 0 ≤ x ∧ x ≤ 65535
  case neg =>
    rw [show goodWn t x = false from decide_eq_false (fun h => h2 ⟨h.1, by have := h.2.2.2.1; omega⟩)]
    rw [decide_eq_true h1] at q1
    rw [decide_eq_false h2] at q2
    clear h2
    go_enter Tryd.func21, Tryd.ntmps21
    go_wp2_with (first | (go_at_call 51; refine (q1.out _).mono ?_; clear q1; rintro e w1 ⟨rfl, hw⟩; subst w1) | (go_at_call 51; refine (q2.out _).mono ?_; clear q2; rintro e w1 ⟨rfl, hw⟩; subst w1))
    go_ret
    exact ⟨rfl, HB.out⟩
  obtain ⟨b, rfl⟩ : ∃ b : Nat, x = b := ⟨x.toNat, by omega⟩
  have hb : b < 65536 := by omega
  rw [decide_eq_true h1] at q1
  rw [decide_eq_true h2] at q2
  have hA := and1_i64 b hb
  by_cases h3 : (b % 2 = 1 ↔ 0 < t)
  case neg =>
    rw [show goodWn t b = false from decide_eq_false (fun h => h3 (by have := h.2.2.2.2.1; rw [Int.toNat_natCast] at this; exact this))]
    have h01 : (b % 2 = 0 ∧ 0 < t) ∨ (b % 2 = 1 ∧ ¬ 0 < t) := by
      by_cases e : b % 2 = 1
      · right; exact ⟨e, fun h => h3 ⟨fun _ => h, fun _ => e⟩⟩
      · left
        refine ⟨by omega, ?_⟩
        rcases Int.lt_or_le 0 t with h | h
        · exact h
        · exact absurd ⟨fun h' => absurd h' e, fun h' => by omega⟩ h3
    rcases h01 with ⟨e1, e2⟩ | ⟨e1, e2⟩
    · rw [e1] at hA
      have hA2 : bits BinOp.and IntKind.i64 (b : Int) 1 = 0 := hA
      clear h3 e1 hA
      go_enter Tryd.func21, Tryd.ntmps21
      go_wp2_with (first | (go_at_call 51; refine (q1.out _).mono ?_; clear q1; rintro e w1 ⟨rfl, hw⟩; subst w1) | (go_at_call 51; refine (q2.out _).mono ?_; clear q2; rintro e w1 ⟨rfl, hw⟩; subst w1))
      go_ret
      exact ⟨rfl, HB.out⟩
    · rw [e1] at hA
      have hA2 : bits BinOp.and IntKind.i64 (b : Int) 1 = 1 := hA
      clear h3 e1 hA
      obtain rfl : t = 0 := by omega
      go_enter Tryd.func21, Tryd.ntmps21
      go_wp2_with (first | (go_at_call 51; refine (q1.out _).mono ?_; clear q1; rintro e w1 ⟨rfl, hw⟩; subst w1) | (go_at_call 51; refine (q2.out _).mono ?_; clear q2; rintro e w1 ⟨rfl, hw⟩; subst w1))
      go_ret
      exact ⟨rfl, HB.out⟩
  have h01 : (b % 2 = 0 ∧ ¬ 0 < t) ∨ (b % 2 = 1 ∧ 0 < t) := by
    by_cases e : b % 2 = 1
    · right; exact ⟨e, h3.1 e⟩
    · left; exact ⟨by omega, fun h => e (h3.2 h)⟩
  have HG : Hid ((∀ k, k < 16 → b.testBit k = true → 1 ≤ t - (k : Int)) → goodWn t b = true) := fun h => goodWn_at ⟨h1.1, h1.2, hb, h3, h⟩
  have HF : Hid (∀ k, k < 16 → b.testBit k = true → t - (k : Int) < 1 → goodWn t b = false) := fun k hk hkb hn => decide_eq_false (fun h => absurd hn (Int.not_lt.2 (by have := h.2.2.2.2.2 k hk; rw [Int.toNat_natCast] at this; exact this hkb)))
  generalize goodWn t b = R at HG HF ⊢
  have HBits : Hid (∀ k : Nat, bits BinOp.and IntKind.i64 ((b : Int) / 2 ^ k) 1 = if b.testBit k = true then 1 else 0) := fun k => bitAt hb k
  clear h3
  rcases h01 with ⟨e1, e2⟩ | ⟨e1, e2⟩
  · rw [e1] at hA
    have hA2 : bits BinOp.and IntKind.i64 (b : Int) 1 = 0 := hA
    clear e1 hA
    obtain rfl : t = 0 := by omega
    go_enter Tryd.func21, Tryd.ntmps21
    go_wp2_with (first | (go_at_call 51; refine (q1.out _).mono ?_; clear q1; rintro e w1 ⟨rfl, hw⟩; subst w1) | (go_at_call 51; refine (q2.out _).mono ?_; clear q2; rintro e w1 ⟨rfl, hw⟩; subst w1))
    clear hA2
    go_loop [3] (fun iv => ∃ (k : Nat), k ≤ 16 ∧ iv = .int .i64 k ∧ Hid (∀ j, j < k → b.testBit j = true → 1 ≤ 0 - (j : Int))) (fun iv => 16 - (intOf iv).toNat)
    case atStart => exact ⟨0, Nat.zero_le _, rfl, fun j h => absurd h (by omega)⟩
    case round =>
      obtain ⟨k, hk, rfl, HS⟩ := hrel
      by_cases hlt : k < 16
      · have hB := HBits.out k
        cases hkb : b.testBit k
        · rw [hkb, if_neg (by decide)] at hB
          have HS2 : Hid (∀ j, j < k + 1 → b.testBit j = true → 1 ≤ 0 - (j : Int)) := fun j hj hjb => by
            by_cases e : j = k
            · rw [e, hkb] at hjb; cases hjb
            · exact HS.out j (by omega) hjb
          clear hkb
          go_wp2
          go_round
          case rel => exact ⟨k + 1, by omega, by go_num, HS2⟩
          case measure => simp [intOf]; omega
        · rw [hkb, if_pos rfl] at hB
          by_cases h1k : 1 ≤ 0 - (k : Int)
          · exfalso; omega
          · have HR : Hid (R = false) := HF.out k hlt hkb (by omega)
            clear hkb
            go_wp2
            go_ret
            exact ⟨ret_bool HR.out.symm, HB.out⟩
      · obtain rfl : k = 16 := by omega
        have HR : Hid (R = true) := HG.out HS.out
        go_wp2
        go_ret
        exact ⟨ret_bool HR.out.symm, HB.out⟩
  · rw [e1] at hA
    have hA2 : bits BinOp.and IntKind.i64 (b : Int) 1 = 1 := hA
    clear e1 hA
    go_enter Tryd.func21, Tryd.ntmps21
    go_wp2_with (first | (go_at_call 51; refine (q1.out _).mono ?_; clear q1; rintro e w1 ⟨rfl, hw⟩; subst w1) | (go_at_call 51; refine (q2.out _).mono ?_; clear q2; rintro e w1 ⟨rfl, hw⟩; subst w1))
    clear hA2
    go_loop [3] (fun iv => ∃ (k : Nat), k ≤ 16 ∧ iv = .int .i64 k ∧ Hid (∀ j, j < k → b.testBit j = true → 1 ≤ t - (j : Int))) (fun iv => 16 - (intOf iv).toNat)
    case atStart => exact ⟨0, Nat.zero_le _, rfl, fun j h => absurd h (by omega)⟩
    case round =>
      obtain ⟨k, hk, rfl, HS⟩ := hrel
      by_cases hlt : k < 16
      · have hB := HBits.out k
        cases hkb : b.testBit k
        · rw [hkb, if_neg (by decide)] at hB
          have HS2 : Hid (∀ j, j < k + 1 → b.testBit j = true → 1 ≤ t - (j : Int)) := fun j hj hjb => by
            by_cases e : j = k
            · rw [e, hkb] at hjb; cases hjb
            · exact HS.out j (by omega) hjb
          clear hkb
          go_wp2
          go_round
          case rel => exact ⟨k + 1, by omega, by go_num, HS2⟩
          case measure => simp [intOf]; omega
        · rw [hkb, if_pos rfl] at hB
          by_cases h1k : 1 ≤ t - (k : Int)
          · have HS2 : Hid (∀ j, j < k + 1 → b.testBit j = true → 1 ≤ t - (j : Int)) := fun j hj hjb => by
              by_cases e : j = k
              · rw [e]; exact h1k
              · exact HS.out j (by omega) hjb
            clear hkb
            go_wp2
            go_round
            case rel => exact ⟨k + 1, by omega, by go_num, HS2⟩
            case measure => simp [intOf]; omega
          · have HR : Hid (R = false) := HF.out k hlt hkb (by omega)
            clear hkb
            go_wp2
            go_ret
            exact ⟨ret_bool HR.out.symm, HB.out⟩
      · obtain rfl : k = 16 := by omega
        have HR : Hid (R = true) := HG.out HS.out
        go_wp2
        go_ret
        exact ⟨ret_bool HR.out.symm, HB.out⟩

end Go.Proofs.YtjpegbodhpnflaaDoor
