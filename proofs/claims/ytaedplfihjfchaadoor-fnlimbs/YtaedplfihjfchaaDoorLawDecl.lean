/- The law on OfDigits, walked. -/
import Derived.Test.YtaedplfihjfchaaDoorSpecDecl
namespace Go.Proofs.YtaedplfihjfchaaDoor
set_option linter.unusedVariables false
set_option maxRecDepth 1000000
set_option linter.unusedSimpArgs false
open Go.RowKit

set_option maxHeartbeats 1000000 in
theorem specDec_len (s : ByteArray) (w : World) (h : s.size < 1 ∨ 30 < s.size ∨ (1 < s.size ∧ (byts s).getD 0 0 = 48)) :
    Calls Tryd.prog 20 #[.string s] w fun e w' => ∃ a' c', e = .returned (.tuple #[.agg #[.slice a' 0 c'], .bool false]) ∧ Own w' w.heap.size (.slice a' 0 c') [] ∧ Below w.heap.size w w' := by
  by_cases h1 : s.size < 1 ∨ 30 < s.size
  · have hde : decide ((1 : Int) ≤ (s.size : Int) ∧ (s.size : Int) ≤ 30) = false := decide_eq_false (by omega)
    have HIN : Hid (∀ wx, Calls Tryd.prog 49 #[.int .i64 (s.size : Int), .int .i64 1, .int .i64 30] wx fun e w' => e = .returned (.bool false) ∧ w' = wx) := fun wx => by
      have := l1In_c (s.size : Int) 1 30 wx
      rw [hde] at this
      exact this
    clear hde h h1
    go_enter Tryd.func20, Tryd.ntmps20
    go_wp2_with fail
    refine (HIN.out _).mono ?_
    rintro e w1 ⟨rfl, hw⟩
    subst w1
    go_wp2
    refine bodyPost_ret (v := .tuple #[.agg #[.slice none 0 0], .bool false]) (by simp [results, Tryd.results20, go_sem]) rfl ⟨none, 0, rfl, World.ownsRow_nil _ _ _ _, ?_⟩
    repeat (first | exact Below.refl _ _ | refine Below.setCell ?_ (by simp) _ | refine Below.alloc ?_ (by simp) _)
  · have h3 : 1 < s.size ∧ (byts s).getD 0 0 = 48 := by omega
    have hde : decide ((1 : Int) ≤ (s.size : Int) ∧ (s.size : Int) ≤ 30) = true := decide_eq_true ⟨by omega, by omega⟩
    have HIN : Hid (∀ wx, Calls Tryd.prog 49 #[.int .i64 (s.size : Int), .int .i64 1, .int .i64 30] wx fun e w' => e = .returned (.bool true) ∧ w' = wx) := fun wx => by
      have := l1In_c (s.size : Int) 1 30 wx
      rw [hde] at this
      exact this
    obtain ⟨h4, h5⟩ := h3
    have h6 : ((s[0].toNat : Int) == 48) = true := by rw [← byts_getD s 0 (by omega), h5]; rfl
    have h0 : 0 < s.size := by omega
    clear hde h h5
    go_enter Tryd.func20, Tryd.ntmps20
    go_wp2_with fail
    refine (HIN.out _).mono ?_
    rintro e w1 ⟨rfl, hw⟩
    subst w1
    go_wp2
    refine bodyPost_ret (v := .tuple #[.agg #[.slice none 0 0], .bool false]) (by simp [results, Tryd.results20, go_sem]) rfl ⟨none, 0, rfl, World.ownsRow_nil _ _ _ _, ?_⟩
    repeat (first | exact Below.refl _ _ | refine Below.setCell ?_ (by simp) _ | refine Below.alloc ?_ (by simp) _)

theorem specDec_c (s : ByteArray) (w : World) (hs : s.size ≤ 9223372036854775807) (zs : List Int) (fb : Bool) (p : Nat) (hF : digF (byts s) = (zs, fb)) (hp : zs.length = p) :
    Calls Tryd.prog 20 #[.string s] w fun e w' => ∃ a' c', e = .returned (.tuple #[.agg #[.slice a' p c'], .bool fb]) ∧ Own w' w.heap.size (.slice a' p c') zs ∧ Below w.heap.size w w' := by
  by_cases h : s.size < 1 ∨ 30 < s.size ∨ (1 < s.size ∧ (byts s).getD 0 0 = 48)
  · obtain ⟨rfl, rfl, rfl⟩ := dec_none (digF_len (by rw [byts_length]; exact h)) hF hp
    exact specDec_len s w h
  · exact specDec_ok s w h zs fb p hF hp

end Go.Proofs.YtaedplfihjfchaaDoor
