/- A text that is spoilt. -/
import Derived.Test.YtaedplfihjfchaaDoorDL1l
import Derived.Test.YtaedplfihjfchaaDoorDI4l
import Derived.Test.YtaedplfihjfchaaDoorDI2l
namespace Go.Proofs.YtaedplfihjfchaaDoor
set_option linter.unusedVariables false
set_option maxRecDepth 1000000
set_option linter.unusedSimpArgs false
open Go.RowKit

set_option maxHeartbeats 4000000 in
theorem spoilt_c (g : Nat) (ao : Option Addr) (n c : Nat) (M : Int) (T B : ByteArray) (w : World) (hM : M ≤ 1000000) (hT : T.size ≤ 1000) (hB : B.size = 4) (h : Cur w g ao n c M) :
    Calls Tryd.prog 47 #[.pointer (some ⟨g, 0, none⟩), .string T, .string B] w fun e w' => ∃ s : ByteArray, e = .returned (.string s) ∧ s.size ≤ T.size + 2 ∧ Cur w' g ao n c (M + 100) ∧ GB g w w' := by
  have HC : Hid (Cur w g ao n c M) := h
  clear h
  go_enter Tryd.func47, Tryd.ntmps47
  go_wp2_with fail
  refine (pick_c g ao n c M 3 _ (by omega) (by omega) HC.out).mono ?_
  rintro e w1 ⟨z, rfl, hz0, hz1, hc1, hg1⟩
  obtain ⟨k0, rfl⟩ : ∃ k : Nat, z = (k : Int) := ⟨z.toNat, by omega⟩
  have C1 : Hid (Cur w1 g ao n c (M + 2)) := hc1
  have G1 : Hid (GB g w w1) := hg1
  clear hc1 hg1 HC
  go_wp2
  go_loopw [1, 7] (fun d i wr => ∃ (S : ByteArray) (k : Nat), d = .string S ∧ i = .int .i64 (k : Int) ∧ k ≤ 2 ∧ S.size + k ≤ T.size + 2 ∧ Hid (Cur wr g ao n c (M + 2 + 6 * (2 - (k : Int)))) ∧ Hid (GB g w wr)) (fun _ i _ => (intOf i).toNat)
  case atStart => exact ⟨T, k0, rfl, rfl, by omega, by omega, C1.out.mono (by omega), G1⟩
  case round =>
    clear C1 G1 hz0 hz1
    obtain ⟨S, k, rfl, rfl, hk, hsk, hC, hG⟩ := hrel
    by_cases hk0 : k = 0
    · subst hk0
      go_wp2
      go_ret
      exact ⟨S, rfl, by omega, hC.out.mono (by omega), hG.out⟩
    have hk1 : (0 : Int) < (k : Int) := by omega
    by_cases hS0 : S.size = 0
    · go_wp2
      go_ret
      exact ⟨S, rfl, by omega, hC.out.mono (by omega), hG.out⟩
    have hS1 : (0 : Int) < (S.size : Int) := by omega
    go_wp2_with fail
    refine (pick_c g ao n c _ (S.size : Int) _ (by omega) (by omega) hC.out).mono ?_
    rintro e w2 ⟨zi, rfl, hi0, hi1, hc1, hg1⟩
    obtain ⟨i, rfl⟩ : ∃ i : Nat, zi = (i : Int) := ⟨zi.toNat, by omega⟩
    have C2 : Hid (Cur w2 g ao n c (M + 2 + 6 * (2 - (k : Int)) + 2)) := hc1
    have G2 : Hid (GB g w w2) := hG.out.trans hg1
    clear hc1 hg1 hC hG
    have hB4 : (B.size : Int) = 4 := by omega
    go_wp2_with fail
    refine (pick_c g ao n c _ 4 _ (by omega) (by omega) C2.out).mono ?_
    rintro e w3 ⟨zj, rfl, hj0, hj1, hc1, hg1⟩
    obtain ⟨j, rfl⟩ : ∃ i : Nat, zj = (i : Int) := ⟨zj.toNat, by omega⟩
    have hjB : j < B.size := by omega
    obtain ⟨D, hD⟩ : ∃ D : Nat, B[j].toNat = D := ⟨_, rfl⟩
    have hcv := run_convert_bytes_arg (P := Tryd.prog) (w3.alloc (.cells #[.int .u8 (D : Int)] 5)) 22 5 Tryd.underlying22 Tryd.underlying5 w3.heap.size 0 1 1 [(D : Int)] rfl (fun i hi => by
      obtain rfl : i = 0 := by omega
      simp) 9 Tryd.underlying9
    have hXs : (strOfNums [(D : Int)]).size = 1 := rfl
    generalize strOfNums [(D : Int)] = X at hcv hXs
    have C3 : Hid (Cur (w3.alloc (.cells #[.int .u8 (D : Int)] 5)) g ao n c (M + 2 + 6 * (2 - (k : Int)) + 2 + 2)) := hc1.alloc _
    have G3 : Hid (GB g w (w3.alloc (.cells #[.int .u8 (D : Int)] 5))) := (G2.out.trans hg1).alloc _
    clear hc1 hg1 C2 G2
    go_wp2_with fail
    refine (pick_c g ao n c _ 3 _ (by omega) (by omega) C3.out).mono ?_
    rintro e w4 ⟨zp, rfl, hp0, hp1, hc1, hg1⟩
    have C4 : Hid (Cur w4 g ao n c (M + 2 + 6 * (2 - (k : Int)) + 2 + 2 + 2)) := hc1
    have G4 : Hid (GB g w w4) := G3.out.trans hg1
    clear hc1 hg1 C3 G3 hcv hD hj0 hj1 hjB hB4
    have e1 : (S.extract 0 i).size = i := by rw [ByteArray.size_extract]; omega
    have e2 : (S.extract i S.size).size = S.size - i := by rw [ByteArray.size_extract]; omega
    have e3 : (S.extract (i + 1) S.size).size = S.size - (i + 1) := by rw [ByteArray.size_extract]; omega
    have hi2 : (i : Int) ≤ (S.size : Int) := by omega
    have hi3 : (i : Int) + 1 ≤ (S.size : Int) := by omega
    have hi4 : (0 : Int) ≤ (i : Int) + 1 := by omega
    have c1 : (S.extract 0 i).size + X.size ≤ 9223372036854775807 := by omega
    have c2 : (S.extract 0 i ++ X).size + (S.extract i S.size).size ≤ 9223372036854775807 := by rw [ByteArray.size_append]; omega
    have c3 : (S.extract 0 i ++ X).size + (S.extract (i + 1) S.size).size ≤ 9223372036854775807 := by rw [ByteArray.size_append]; omega
    have c4 : (S.extract 0 i).size + (S.extract (i + 1) S.size).size ≤ 9223372036854775807 := by omega
    have hbq : ∀ q, Below w4.heap.size w4 (w4.drewN q) := fun q => below_drewN (Below.refl _ _) q
    have ek : ((k - 1 : Nat) : Int) = (k : Int) - 1 := by omega
    by_cases hz0 : zp = 0
    · subst hz0
      go_wp2
      go_quiet (fail)
      go_wp2
      exact ⟨⟨_, k - 1, rfl, by go_num, by omega, by rw [ByteArray.size_append, ByteArray.size_append, e1, e2]; omega, (C4.out.later (hbq _)).mono (by omega), G4.out.drewN _⟩, by simp [intOf]; omega⟩
    · have hzb : (zp == 0) = false := by simpa using hz0
      by_cases hz1 : zp = 1
      · subst hz1
        go_wp2
        go_quiet (fail)
        go_wp2
        exact ⟨⟨_, k - 1, rfl, by go_num, by omega, by rw [ByteArray.size_append, ByteArray.size_append, e1, e3]; omega, (C4.out.later (hbq _)).mono (by omega), G4.out.drewN _⟩, by simp [intOf]; omega⟩
      · have hzc : (zp == 1) = false := by simpa using hz1
        go_wp2
        go_quiet (fail)
        go_wp2
        exact ⟨⟨_, k - 1, rfl, by go_num, by omega, by rw [ByteArray.size_append, e1, e3]; omega, (C4.out.later (hbq _)).mono (by omega), G4.out.drewN _⟩, by simp [intOf]; omega⟩

end Go.Proofs.YtaedplfihjfchaaDoor
namespace Go.Proofs.YtaedplfihjfchaaDoor
set_option linter.unusedVariables false
set_option maxRecDepth 1000000
set_option linter.unusedSimpArgs false
open Go.RowKit

theorem digitsF_size {xs : List Int} {S : ByteArray} {fb : Bool} (h : digitsF xs = (S, fb)) : S.size ≤ 30 := by
  unfold digitsF at h
  split at h
  · rename_i gx
    obtain ⟨lx, dx, _⟩ := goodB_digs gx
    simp only [Prod.mk.injEq] at h
    rw [← h.1]
    have hv := val_lt6 dx lx
    have h0 := val_nonneg dx
    exact decS_size (by omega)
  · simp only [Prod.mk.injEq] at h
    rw [← h.1]; exact Nat.zero_le _

/-- The bytes of a number's text are its digits. -/
theorem byts_append (a b : ByteArray) : byts (a ++ b) = byts a ++ byts b := by
  unfold byts
  rw [ByteArray.data_append, Array.toList_append, List.map_append]
theorem byts_digS {k : Nat} (h : k < 10) : byts (digS k) = [48 + (k : Int)] := by
  have : k = 0 ∨ k = 1 ∨ k = 2 ∨ k = 3 ∨ k = 4 ∨ k = 5 ∨ k = 6 ∨ k = 7 ∨ k = 8 ∨ k = 9 := by omega
  rcases this with rfl | rfl | rfl | rfl | rfl | rfl | rfl | rfl | rfl | rfl <;> decide +kernel
theorem byts_dlS (n : Nat) : byts (dlS n) = dlN n := by
  induction n using Nat.strongRecOn with
  | ind n ih =>
    by_cases h : n = 0
    · subst h; rw [dlS_zero, dlN_zero]; rfl
    · rw [dlS_pos (by omega), dlN_pos (by omega), byts_append, ih (n / 10) (by omega), byts_digS (by omega)]
theorem byts_decS (n : Nat) : byts (decS n) = decN n := by
  rw [decS, decN, byts_append, byts_dlS, byts_digS (by omega)]
/-- A number comes back from its digits. -/
theorem digits_back {xs : List Int} {S : ByteArray} (h : digitsF xs = (S, true)) : digF (byts S) = (xs, true) := by
  unfold digitsF at h
  split at h
  · rename_i gx
    obtain ⟨lx, dx, tx⟩ := goodB_digs gx
    simp only [Prod.mk.injEq, and_true] at h
    have hv := val_lt6 dx lx
    have h0 := val_nonneg dx
    rw [← h, byts_decS, digF_decN (by omega), Int.toNat_of_nonneg h0, ← eq_bigL dx tx]
  · simp at h

set_option maxHeartbeats 2000000 in
theorem drawOf_c (ao : Option Addr) (n c : Nat) (w : World) (hn : n ≤ 9223372036854775807) (h : CodeOk w w.heap.size ao n) :
    Calls Tryd.prog 18 #[.slice ao n c] w fun e w' => ∃ s : ByteArray, e = .returned (.string s) ∧ s.size ≤ 32 ∧ Below w.heap.size w w' := by
  have C0 : Hid (Cur (w.alloc (.cells #[.slice ao n c, .int .i64 0, .int .u64 0] 50)) w.heap.size ao n c 0) := cur_new _ hn h
  have G0 : Hid (GB w.heap.size w (w.alloc (.cells #[.slice ao n c, .int .i64 0, .int .u64 0] 50))) := (GB.refl _ _).alloc _
  clear h
  go_enter Tryd.func18, Tryd.ntmps18
  go_wp2_with fail
  refine (big_c w.heap.size ao n c 0 _ (by omega) C0.out).mono ?_
  rintro e w1 ⟨a1, q1, c1, xs, rfl, hq1, hx, ho, hc1, hg1⟩
  have C1 : Hid (Cur w1 w.heap.size ao n c 100) := hc1
  have G1 : Hid (GB w.heap.size w w1) := G0.out.trans hg1
  obtain ⟨S, fb, hF⟩ : ∃ S fb, digitsF xs = (S, fb) := ⟨_, _, rfl⟩
  have hS : S.size ≤ 30 := digitsF_size hF
  have HF : Hid (digitsF xs = (S, fb)) := hF
  have HX : Hid (xs.length = q1) := hx
  have HR : Hid (Rd w1 a1 xs) := ho.rd'.2
  clear hc1 hg1 C0 G0 hF hx ho
  go_wp2_with fail
  refine (specDigits_c a1 q1 c1 xs _ HX.out (by omega) HR.out S fb HF.out).mono ?_
  rintro e w2 ⟨rfl, hb⟩
  have C2 : Hid (Cur w2 w.heap.size ao n c 100) := C1.out.later hb
  have G2 : Hid (GB w.heap.size w w2) := G1.out.trans (GB.of_below hb (Nat.le_refl _))
  clear hb C1 G1 HR HF HX
  go_wp2_with fail
  refine (one_c w.heap.size ao n c 100 4 _ (by omega) (by omega) C2.out).mono ?_
  rintro e w3 ⟨ob, rfl, hc1, hg1⟩
  have C3 : Hid (Cur w3 w.heap.size ao n c 102) := hc1
  have G3 : Hid (GB w.heap.size w w3) := G2.out.trans hg1
  clear hc1 hg1 C2 G2
  cases ob with
  | false =>
    go_wp2
    go_ret
    exact ⟨S, rfl, by omega, G3.out.below (Nat.le_refl _) (Nat.le_refl _)⟩
  | true =>
    go_wp2_with fail
    refine (spoilt_c w.heap.size ao n c 102 S ⟨#[48, 49, 57, 120]⟩ _ (by omega) (by omega) rfl C3.out).mono ?_
    rintro e w4 ⟨S2, rfl, hs2, hc1, hg1⟩
    have G4 : Hid (GB w.heap.size w w4) := G3.out.trans hg1
    clear hc1 hg1 C3 G3
    go_wp2
    go_ret
    exact ⟨S2, rfl, by omega, G4.out.below (Nat.le_refl _) (Nat.le_refl _)⟩

end Go.Proofs.YtaedplfihjfchaaDoor
