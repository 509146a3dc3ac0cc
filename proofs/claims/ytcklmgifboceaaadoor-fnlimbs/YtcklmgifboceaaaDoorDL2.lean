/- A text that is spoilt. -/
import Derived.Test.YtcklmgifboceaaaDoorDL1
import Derived.Test.YtcklmgifboceaaaDoorDI4
namespace Go.Proofs.YtcklmgifboceaaaDoor
set_option linter.unusedVariables false
set_option maxRecDepth 1000000
set_option linter.unusedSimpArgs false
open Go.RowKit

set_option maxHeartbeats 4000000 in
theorem spoilt_c (g : Nat) (ao : Option Addr) (n c : Nat) (M : Int) (T B : ByteArray) (w : World) (hM : M ≤ 1000000) (hT : T.size ≤ 1000) (hB : B.size = 4) (h : Cur w g ao n c M) :
    Calls Tryd.prog 51 #[.pointer (some ⟨g, 0, none⟩), .string T, .string B] w fun e w' => ∃ s : ByteArray, e = .returned (.string s) ∧ s.size ≤ T.size + 2 ∧ Cur w' g ao n c (M + 100) ∧ GB g w w' := by
  have HC : Hid (Cur w g ao n c M) := h
  clear h
  go_enter Tryd.func51, Tryd.ntmps51
  go_wp2_with fail
  refine (pick_c g ao n c M 3 _ (by omega) (by omega) HC.out).mono ?_
  rintro e w1 ⟨z, rfl, hz0, hz1, hc1, hg1⟩
  obtain ⟨k0, rfl⟩ : ∃ k : Nat, z = (k : Int) := ⟨z.toNat, by omega⟩
  have C1 : Hid (Cur w1 g ao n c (M + 2)) := hc1
  have G1 : Hid (GB g w w1) := hg1
  clear hc1 hg1 HC
  go_wp2
  go_loopw [1, 7] (fun d i wr => ∃ (S : ByteArray) (k : Nat), d = .string S ∧ i = .int .i64 (k : Int) ∧ k ≤ 2 ∧ S.size + k ≤ T.size + 2 ∧ Hid (Cur wr g ao n c (M + 2 + 6 * (2 - (k : Int)))) ∧ Hid (GB g w wr)) (fun _ i _ => (intOf i).toNat)
  case atStart => exact ⟨T, k0, rfl, rfl, by omega, by omega, C1.out.mono (by omega), G1⟩
  case round =>
    clear C1 G1 hz0 hz1
    obtain ⟨S, k, rfl, rfl, hk, hsk, hC, hG⟩ := hrel
    by_cases hk0 : k = 0
    · subst hk0
      go_wp2
      go_ret
      exact ⟨S, rfl, by omega, hC.out.mono (by omega), hG.out⟩
    have hk1 : (0 : Int) < (k : Int) := by omega
    by_cases hS0 : S.size = 0
    · go_wp2
      go_ret
      exact ⟨S, rfl, by omega, hC.out.mono (by omega), hG.out⟩
    have hS1 : (0 : Int) < (S.size : Int) := by omega
    go_wp2_with fail
    refine (pick_c g ao n c _ (S.size : Int) _ (by omega) (by omega) hC.out).mono ?_
    rintro e w2 ⟨zi, rfl, hi0, hi1, hc1, hg1⟩
    obtain ⟨i, rfl⟩ : ∃ i : Nat, zi = (i : Int) := ⟨zi.toNat, by omega⟩
    have C2 : Hid (Cur w2 g ao n c (M + 2 + 6 * (2 - (k : Int)) + 2)) := hc1
    have G2 : Hid (GB g w w2) := hG.out.trans hg1
    clear hc1 hg1 hC hG
    have hB4 : (B.size : Int) = 4 := by omega
    go_wp2_with fail
    refine (pick_c g ao n c _ 4 _ (by omega) (by omega) C2.out).mono ?_
    rintro e w3 ⟨zj, rfl, hj0, hj1, hc1, hg1⟩
    obtain ⟨j, rfl⟩ : ∃ i : Nat, zj = (i : Int) := ⟨zj.toNat, by omega⟩
    have hjB : j < B.size := by omega
    obtain ⟨D, hD⟩ : ∃ D : Nat, B[j].toNat = D := ⟨_, rfl⟩
    have hcv := run_convert_bytes_arg (P := Tryd.prog) (w3.alloc (.cells #[.int .u8 (D : Int)] 5)) 22 5 Tryd.underlying22 Tryd.underlying5 w3.heap.size 0 1 1 [(D : Int)] rfl (fun i hi => by
      obtain rfl : i = 0 := by omega
      simp) 9 Tryd.underlying9
    have hXs : (strOfNums [(D : Int)]).size = 1 := rfl
    generalize strOfNums [(D : Int)] = X at hcv hXs
    have C3 : Hid (Cur (w3.alloc (.cells #[.int .u8 (D : Int)] 5)) g ao n c (M + 2 + 6 * (2 - (k : Int)) + 2 + 2)) := hc1.alloc _
    have G3 : Hid (GB g w (w3.alloc (.cells #[.int .u8 (D : Int)] 5))) := (G2.out.trans hg1).alloc _
    clear hc1 hg1 C2 G2
    go_wp2_with fail
    refine (pick_c g ao n c _ 3 _ (by omega) (by omega) C3.out).mono ?_
    rintro e w4 ⟨zp, rfl, hp0, hp1, hc1, hg1⟩
    have C4 : Hid (Cur w4 g ao n c (M + 2 + 6 * (2 - (k : Int)) + 2 + 2 + 2)) := hc1
    have G4 : Hid (GB g w w4) := G3.out.trans hg1
    clear hc1 hg1 C3 G3 hcv hD hj0 hj1 hjB hB4
    have e1 : (S.extract 0 i).size = i := by rw [ByteArray.size_extract]; omega
    have e2 : (S.extract i S.size).size = S.size - i := by rw [ByteArray.size_extract]; omega
    have e3 : (S.extract (i + 1) S.size).size = S.size - (i + 1) := by rw [ByteArray.size_extract]; omega
    have hi2 : (i : Int) ≤ (S.size : Int) := by omega
    have hi3 : (i : Int) + 1 ≤ (S.size : Int) := by omega
    have hi4 : (0 : Int) ≤ (i : Int) + 1 := by omega
    have c1 : (S.extract 0 i).size + X.size ≤ 9223372036854775807 := by omega
    have c2 : (S.extract 0 i ++ X).size + (S.extract i S.size).size ≤ 9223372036854775807 := by rw [ByteArray.size_append]; omega
    have c3 : (S.extract 0 i ++ X).size + (S.extract (i + 1) S.size).size ≤ 9223372036854775807 := by rw [ByteArray.size_append]; omega
    have c4 : (S.extract 0 i).size + (S.extract (i + 1) S.size).size ≤ 9223372036854775807 := by omega
    have hbq : ∀ q, Below w4.heap.size w4 (w4.drewN q) := fun q => below_drewN (Below.refl _ _) q
    have ek : ((k - 1 : Nat) : Int) = (k : Int) - 1 := by omega
    by_cases hz0 : zp = 0
    · subst hz0
      go_wp2
      go_quiet (fail)
      go_wp2
      exact ⟨⟨_, k - 1, rfl, by go_num, by omega, by rw [ByteArray.size_append, ByteArray.size_append, e1, e2]; omega, (C4.out.later (hbq _)).mono (by omega), G4.out.drewN _⟩, by simp [intOf]; omega⟩
    · have hzb : (zp == 0) = false := by simpa using hz0
      by_cases hz1 : zp = 1
      · subst hz1
        go_wp2
        go_quiet (fail)
        go_wp2
        exact ⟨⟨_, k - 1, rfl, by go_num, by omega, by rw [ByteArray.size_append, ByteArray.size_append, e1, e3]; omega, (C4.out.later (hbq _)).mono (by omega), G4.out.drewN _⟩, by simp [intOf]; omega⟩
      · have hzc : (zp == 1) = false := by simpa using hz1
        go_wp2
        go_quiet (fail)
        go_wp2
        exact ⟨⟨_, k - 1, rfl, by go_num, by omega, by rw [ByteArray.size_append, e1, e3]; omega, (C4.out.later (hbq _)).mono (by omega), G4.out.drewN _⟩, by simp [intOf]; omega⟩

end Go.Proofs.YtcklmgifboceaaaDoor
