/- A text of digits that is drawn. -/
import Derived.Test.YtcklmgifboceaaaDoorDL2
import Derived.Test.YtcklmgifboceaaaDoorDG1
namespace Go.Proofs.YtcklmgifboceaaaDoor
set_option linter.unusedVariables false
set_option maxRecDepth 1000000
set_option linter.unusedSimpArgs false
open Go.RowKit

theorem digitsF_size {xs : List Int} {S : ByteArray} {fb : Bool} (h : digitsF xs = (S, fb)) : S.size ≤ 30 := by
  unfold digitsF at h
  split at h
  · rename_i gx
    obtain ⟨lx, dx, _⟩ := goodB_digs gx
    simp only [Prod.mk.injEq] at h
    rw [← h.1]
    have hv := val_lt6 dx lx
    have h0 := val_nonneg dx
    exact decS_size (by omega)
  · simp only [Prod.mk.injEq] at h
    rw [← h.1]; exact Nat.zero_le _

/-- The bytes of a number's text are its digits. -/
theorem byts_append (a b : ByteArray) : byts (a ++ b) = byts a ++ byts b := by
  unfold byts
  rw [ByteArray.data_append, Array.toList_append, List.map_append]
theorem byts_digS {k : Nat} (h : k < 10) : byts (digS k) = [48 + (k : Int)] := by
  have : k = 0 ∨ k = 1 ∨ k = 2 ∨ k = 3 ∨ k = 4 ∨ k = 5 ∨ k = 6 ∨ k = 7 ∨ k = 8 ∨ k = 9 := by omega
  rcases this with rfl | rfl | rfl | rfl | rfl | rfl | rfl | rfl | rfl | rfl <;> decide +kernel
theorem byts_dlS (n : Nat) : byts (dlS n) = dlN n := by
  induction n using Nat.strongRecOn with
  | ind n ih =>
    by_cases h : n = 0
    · subst h; rw [dlS_zero, dlN_zero]; rfl
    · rw [dlS_pos (by omega), dlN_pos (by omega), byts_append, ih (n / 10) (by omega), byts_digS (by omega)]
theorem byts_decS (n : Nat) : byts (decS n) = decN n := by
  rw [decS, decN, byts_append, byts_dlS, byts_digS (by omega)]
/-- A number comes back from its digits. -/
theorem digits_back {xs : List Int} {S : ByteArray} (h : digitsF xs = (S, true)) : digF (byts S) = (xs, true) := by
  unfold digitsF at h
  split at h
  · rename_i gx
    obtain ⟨lx, dx, tx⟩ := goodB_digs gx
    simp only [Prod.mk.injEq, and_true] at h
    have hv := val_lt6 dx lx
    have h0 := val_nonneg dx
    rw [← h, byts_decS, digF_decN (by omega), Int.toNat_of_nonneg h0, ← eq_bigL dx tx]
  · simp at h

set_option maxHeartbeats 2000000 in
theorem drawOf_c (ao : Option Addr) (n c : Nat) (w : World) (hn : n ≤ 9223372036854775807) (h : CodeOk w w.heap.size ao n) :
    Calls Tryd.prog 19 #[.slice ao n c] w fun e w' => ∃ s : ByteArray, e = .returned (.string s) ∧ s.size ≤ 32 ∧ Below w.heap.size w w' := by
  have C0 : Hid (Cur (w.alloc (.cells #[.slice ao n c, .int .i64 0, .int .u64 0] 54)) w.heap.size ao n c 0) := cur_new _ hn h
  have G0 : Hid (GB w.heap.size w (w.alloc (.cells #[.slice ao n c, .int .i64 0, .int .u64 0] 54))) := (GB.refl _ _).alloc _
  clear h
  go_enter Tryd.func19, Tryd.ntmps19
  go_wp2_with fail
  refine (big_c w.heap.size ao n c 0 _ (by omega) C0.out).mono ?_
  rintro e w1 ⟨a1, q1, c1, xs, rfl, hq1, hx, ho, hc1, hg1⟩
  have C1 : Hid (Cur w1 w.heap.size ao n c 100) := hc1
  have G1 : Hid (GB w.heap.size w w1) := G0.out.trans hg1
  obtain ⟨S, fb, hF⟩ : ∃ S fb, digitsF xs = (S, fb) := ⟨_, _, rfl⟩
  have hS : S.size ≤ 30 := digitsF_size hF
  have HF : Hid (digitsF xs = (S, fb)) := hF
  have HX : Hid (xs.length = q1) := hx
  have HR : Hid (Rd w1 a1 xs) := ho.rd'.2
  clear hc1 hg1 C0 G0 hF hx ho
  go_wp2_with fail
  refine (specDigits_c a1 q1 c1 xs _ HX.out (by omega) HR.out S fb HF.out).mono ?_
  rintro e w2 ⟨rfl, hb⟩
  have C2 : Hid (Cur w2 w.heap.size ao n c 100) := C1.out.later hb
  have G2 : Hid (GB w.heap.size w w2) := G1.out.trans (GB.of_below hb (Nat.le_refl _))
  clear hb C1 G1 HR HF HX
  go_wp2_with fail
  refine (one_c w.heap.size ao n c 100 4 _ (by omega) (by omega) C2.out).mono ?_
  rintro e w3 ⟨ob, rfl, hc1, hg1⟩
  have C3 : Hid (Cur w3 w.heap.size ao n c 102) := hc1
  have G3 : Hid (GB w.heap.size w w3) := G2.out.trans hg1
  clear hc1 hg1 C2 G2
  cases ob with
  | false =>
    go_wp2
    go_ret
    exact ⟨S, rfl, by omega, G3.out.below (Nat.le_refl _) (Nat.le_refl _)⟩
  | true =>
    go_wp2_with fail
    refine (spoilt_c w.heap.size ao n c 102 S ⟨#[48, 49, 57, 120]⟩ _ (by omega) (by omega) rfl C3.out).mono ?_
    rintro e w4 ⟨S2, rfl, hs2, hc1, hg1⟩
    have G4 : Hid (GB w.heap.size w w4) := G3.out.trans hg1
    clear hc1 hg1 C3 G3
    go_wp2
    go_ret
    exact ⟨S2, rfl, by omega, G4.out.below (Nat.le_refl _) (Nat.le_refl _)⟩

end Go.Proofs.YtcklmgifboceaaaDoor
