/- What chapter 7 draws: keys, blocks, bodies, texts spoilt. -/
import Derived.Test.YtnfoflijapbkdaaD3G
import Derived.Test.YtnfoflijapbkdaaS7
namespace Go.Proofs.Ytnfoflijapbkdaa
set_option linter.unusedVariables false
set_option maxRecDepth 1000000
set_option linter.unusedSimpArgs false
open Go.RowKit

/-- One of a literal's texts. -/
theorem of_c (g : Nat) (ao : Option Addr) (n c : Nat) (M : Int) (r k : Nat) (w : World) (hM : M ≤ 3000000000000000000) (hk : 1 ≤ k ∧ k ≤ 1000) (hc : ∀ j, j < k → ∃ s : ByteArray, w.cell? ⟨r, j, none⟩ = some (.string s) ∧ s.size ≤ 100) (hrg : r ≠ g) (h : Cur w g ao n c M) :
    Calls Try.prog 70 #[.pointer (some ⟨g, 0, none⟩), .slice (some ⟨r, 0, none⟩) k k] w fun e w' => ∃ s : ByteArray, e = .returned (.string s) ∧ s.size ≤ 100 ∧ Cur w' g ao n c (M + 2) ∧ GB g w w' := by
  have HC : Hid (Cur w g ao n c M) := h
  have HR : Hid (∀ j, j < k → ∃ s : ByteArray, w.cell? ⟨r, j, none⟩ = some (.string s) ∧ s.size ≤ 100) := hc
  obtain ⟨hk1, hk2⟩ := hk
  have kk : (1 : Int) ≤ (k : Int) ∧ (k : Int) ≤ 1000000 := by omega
  have HNE : Hid (¬ some r = some g) := by show ¬ _; simpa using hrg
  clear h hc hrg
  go_enter Try.func70, Try.ntmps70
  go_wp2_with fail
  refine (pick_c g ao n c M k _ hM kk HC.out).mono ?_
  rintro e w1 ⟨z, rfl, hz0, hz1, hc1, hg1⟩
  obtain ⟨j, rfl⟩ : ∃ j : Nat, z = j := ⟨z.toNat, by omega⟩
  obtain ⟨s, hs, hs2⟩ := HR.out j (by omega)
  have q1 : w1.cell? ⟨r, j, none⟩ = some (.string s) := by have h := hg1.cell (a := ⟨r, j, none⟩) hs HNE.out; simpa using h
  have HC1 : Hid (Cur w1 g ao n c (M + 2)) := hc1
  have HG1 : Hid (GB g w w1) := hg1
  clear hc1 hg1 HC hs HR
  go_wp2
  go_ret
  exact ⟨s, rfl, hs2, HC1.out, HG1.out⟩

def allS : List Value → Prop
  | [] => True
  | .string s :: r => s.size ≤ 100 ∧ allS r
  | _ :: _ => False
theorem allS_at : ∀ {l : List Value} {j : Nat}, allS l → j < l.length → ∃ s : ByteArray, l[j]? = some (.string s) ∧ s.size ≤ 100
  | .string s :: r, 0, h, _ => ⟨s, rfl, h.1⟩
  | .string s :: r, j + 1, h, hj => by
    obtain ⟨y', h1, h2⟩ := allS_at (j := j) h.2 (by simpa using hj)
    exact ⟨y', by simpa using h1, h2⟩
theorem litS_cells (w : World) (cs : Array Value) (t : TypeId) (k : Nat) (hk : cs.size = k) (h : allS cs.toList) : ∀ j, j < k → ∃ s : ByteArray, (w.alloc (.cells cs t)).cell? ⟨w.heap.size, j, none⟩ = some (.string s) ∧ s.size ≤ 100 := fun j hj => by
  obtain ⟨y, h1, h2⟩ := allS_at (j := j) h (by simpa [← hk] using hj)
  refine ⟨y, ?_, h2⟩
  rw [World.cell?_alloc_new]
  · simpa using h1

set_option maxHeartbeats 1000000 in
theorem block_c (g : Nat) (ao : Option Addr) (n c : Nat) (M : Int) (w : World) (hM : M ≤ 1000000) (h : Cur w g ao n c M) :
    Calls Try.prog 68 #[.pointer (some ⟨g, 0, none⟩)] w fun e w' => ∃ z : Int, e = .returned (.int .i64 z) ∧ Cur w' g ao n c (M + 10) ∧ GB g w w' := by
  have C0 : Hid (Cur w g ao n c M) := h
  have G0 : Hid (GB g w w) := GB.refl _ _
  clear h
  go_enter Try.func68, Try.ntmps68
  go_wp2_with fail
  refine (pick_c g ao n c (M) 256 _ (by omega) (by omega) C0.out).mono ?_
  rintro e w1 ⟨x1, rfl, hx10, hx11, hc1, hg1⟩
  have C1 : Hid (Cur w1 g ao n c (M + 2)) := hc1
  have G1 : Hid (GB g w w1) := G0.out.trans hg1
  clear hc1 hg1 C0 G0
  go_wp2_with fail
  refine (pick_c g ao n c (M + 2) 256 _ (by omega) (by omega) C1.out).mono ?_
  rintro e w2 ⟨x2, rfl, hx20, hx21, hc1, hg1⟩
  have C2 : Hid (Cur w2 g ao n c (M + 2 + 2)) := hc1
  have G2 : Hid (GB g w w2) := G1.out.trans hg1
  clear hc1 hg1 C1 G1
  go_wp2_with fail
  refine (pick_c g ao n c (M + 2 + 2) 256 _ (by omega) (by omega) C2.out).mono ?_
  rintro e w3 ⟨x3, rfl, hx30, hx31, hc1, hg1⟩
  have C3 : Hid (Cur w3 g ao n c (M + 2 + 2 + 2)) := hc1
  have G3 : Hid (GB g w w3) := G2.out.trans hg1
  clear hc1 hg1 C2 G2
  go_wp2_with fail
  refine (pick_c g ao n c (M + 2 + 2 + 2) 256 _ (by omega) (by omega) C3.out).mono ?_
  rintro e w4 ⟨x4, rfl, hx40, hx41, hc1, hg1⟩
  have C4 : Hid (Cur w4 g ao n c (M + 2 + 2 + 2 + 2)) := hc1
  have G4 : Hid (GB g w w4) := G3.out.trans hg1
  clear hc1 hg1 C3 G3
  obtain ⟨X, hX⟩ : ∃ X, x1 * 256 + x2 = X := ⟨_, rfl⟩
  obtain ⟨Y, hY⟩ : ∃ Y, x3 * 256 + x4 = Y := ⟨_, rfl⟩
  have hlit := lit_cells (fun _ => True) w4 #[.int .i64 (-1), .int .i64 0, .int .i64 1, .int .i64 65535, .int .i64 65536, .int .i64 X, .int .i64 Y] 3 7 rfl ⟨trivial, trivial, trivial, trivial, trivial, trivial, trivial, trivial⟩
  have hgd : g < w4.heap.size := C4.out.lt
  go_wp2_with fail
  refine (among_p (fun _ => True) g ao n c _ w4.heap.size 7 _ (by omega) (by omega) hlit (by omega) (C4.out.alloc _)).mono ?_
  rintro e w5 ⟨zz, rfl, _, hc1, hg1⟩
  have C5 : Hid (Cur w5 g ao n c (M + 2 + 2 + 2 + 2 + 2)) := hc1
  have G5 : Hid (GB g w w5) := (G4.out.alloc _).trans hg1
  clear hc1 hg1
  go_wp2
  go_ret
  exact ⟨zz, rfl, C5.out.mono (by omega), G5.out⟩

set_option maxHeartbeats 1000000 in
theorem key_c (g : Nat) (ao : Option Addr) (n c : Nat) (M : Int) (w : World) (hM : M ≤ 1000000) (h : Cur w g ao n c M) :
    Calls Try.prog 62 #[.pointer (some ⟨g, 0, none⟩)] w fun e w' => ∃ z : Int, e = .returned (.int .i64 z) ∧ Cur w' g ao n c (M + 10) ∧ GB g w w' := by
  have C0 : Hid (Cur w g ao n c M) := h
  have G0 : Hid (GB g w w) := GB.refl _ _
  clear h
  go_enter Try.func62, Try.ntmps62
  go_wp2_with fail
  refine (pick_c g ao n c (M) 256 _ (by omega) (by omega) C0.out).mono ?_
  rintro e w1 ⟨x1, rfl, hx10, hx11, hc1, hg1⟩
  have C1 : Hid (Cur w1 g ao n c (M + 2)) := hc1
  have G1 : Hid (GB g w w1) := G0.out.trans hg1
  clear hc1 hg1 C0 G0
  go_wp2_with fail
  refine (pick_c g ao n c (M + 2) 256 _ (by omega) (by omega) C1.out).mono ?_
  rintro e w2 ⟨x2, rfl, hx20, hx21, hc1, hg1⟩
  have C2 : Hid (Cur w2 g ao n c (M + 2 + 2)) := hc1
  have G2 : Hid (GB g w w2) := G1.out.trans hg1
  clear hc1 hg1 C1 G1
  go_wp2_with fail
  refine (pick_c g ao n c (M + 2 + 2) 256 _ (by omega) (by omega) C2.out).mono ?_
  rintro e w3 ⟨x3, rfl, hx30, hx31, hc1, hg1⟩
  have C3 : Hid (Cur w3 g ao n c (M + 2 + 2 + 2)) := hc1
  have G3 : Hid (GB g w w3) := G2.out.trans hg1
  clear hc1 hg1 C2 G2
  go_wp2_with fail
  refine (pick_c g ao n c (M + 2 + 2 + 2) 256 _ (by omega) (by omega) C3.out).mono ?_
  rintro e w4 ⟨x4, rfl, hx40, hx41, hc1, hg1⟩
  have C4 : Hid (Cur w4 g ao n c (M + 2 + 2 + 2 + 2)) := hc1
  have G4 : Hid (GB g w w4) := G3.out.trans hg1
  clear hc1 hg1 C3 G3
  obtain ⟨X, hX⟩ : ∃ X, x1 * 256 + x2 = X := ⟨_, rfl⟩
  obtain ⟨Y, hY⟩ : ∃ Y, x3 * 256 + x4 = Y := ⟨_, rfl⟩
  have hlit := lit_cells (fun _ => True) w4 #[.int .i64 0, .int .i64 1, .int .i64 65535, .int .i64 X, .int .i64 Y] 3 5 rfl ⟨trivial, trivial, trivial, trivial, trivial, trivial⟩
  have hgd : g < w4.heap.size := C4.out.lt
  go_wp2_with fail
  refine (among_p (fun _ => True) g ao n c _ w4.heap.size 5 _ (by omega) (by omega) hlit (by omega) (C4.out.alloc _)).mono ?_
  rintro e w5 ⟨zz, rfl, _, hc1, hg1⟩
  have C5 : Hid (Cur w5 g ao n c (M + 2 + 2 + 2 + 2 + 2)) := hc1
  have G5 : Hid (GB g w w5) := (G4.out.alloc _).trans hg1
  clear hc1 hg1
  go_wp2
  go_ret
  exact ⟨zz, rfl, C5.out.mono (by omega), G5.out⟩

set_option maxHeartbeats 4000000 in
theorem spoilt_c (g : Nat) (ao : Option Addr) (n c : Nat) (M : Int) (T B : ByteArray) (w : World) (hM : M ≤ 1000000) (hT : T.size ≤ 1000) (hB : B.size = 3) (h : Cur w g ao n c M) :
    Calls Try.prog 65 #[.pointer (some ⟨g, 0, none⟩), .string T, .string B] w fun e w' => ∃ s : ByteArray, e = .returned (.string s) ∧ s.size ≤ T.size + 2 ∧ Cur w' g ao n c (M + 100) ∧ GB g w w' := by
  have HC : Hid (Cur w g ao n c M) := h
  clear h
  go_enter Try.func65, Try.ntmps65
  go_wp2_with fail
  refine (pick_c g ao n c M 3 _ (by omega) (by omega) HC.out).mono ?_
  rintro e w1 ⟨z, rfl, hz0, hz1, hc1, hg1⟩
  obtain ⟨k0, rfl⟩ : ∃ k : Nat, z = (k : Int) := ⟨z.toNat, by omega⟩
  have C1 : Hid (Cur w1 g ao n c (M + 2)) := hc1
  have G1 : Hid (GB g w w1) := hg1
  clear hc1 hg1 HC
  go_wp2
  go_loopw [1, 7] (fun d i wr => ∃ (S : ByteArray) (k : Nat), d = .string S ∧ i = .int .i64 (k : Int) ∧ k ≤ 2 ∧ S.size + k ≤ T.size + 2 ∧ Hid (Cur wr g ao n c (M + 2 + 6 * (2 - (k : Int)))) ∧ Hid (GB g w wr)) (fun _ i _ => (intOf i).toNat)
  case atStart => exact ⟨T, k0, rfl, rfl, by omega, by omega, C1.out.mono (by omega), G1⟩
  case round =>
    clear C1 G1 hz0 hz1
    obtain ⟨S, k, rfl, rfl, hk, hsk, hC, hG⟩ := hrel
    by_cases hk0 : k = 0
    · subst hk0
      go_wp2
      go_ret
      exact ⟨S, rfl, by omega, hC.out.mono (by omega), hG.out⟩
    have hk1 : (0 : Int) < (k : Int) := by omega
    by_cases hS0 : S.size = 0
    · go_wp2
      go_ret
      exact ⟨S, rfl, by omega, hC.out.mono (by omega), hG.out⟩
    have hS1 : (0 : Int) < (S.size : Int) := by omega
    go_wp2_with fail
    refine (pick_c g ao n c _ (S.size : Int) _ (by omega) (by omega) hC.out).mono ?_
    rintro e w2 ⟨zi, rfl, hi0, hi1, hc1, hg1⟩
    obtain ⟨i, rfl⟩ : ∃ i : Nat, zi = (i : Int) := ⟨zi.toNat, by omega⟩
    have C2 : Hid (Cur w2 g ao n c (M + 2 + 6 * (2 - (k : Int)) + 2)) := hc1
    have G2 : Hid (GB g w w2) := hG.out.trans hg1
    clear hc1 hg1 hC hG
    have hB4 : (B.size : Int) = 3 := by omega
    go_wp2_with fail
    refine (pick_c g ao n c _ 3 _ (by omega) (by omega) C2.out).mono ?_
    rintro e w3 ⟨zj, rfl, hj0, hj1, hc1, hg1⟩
    obtain ⟨j, rfl⟩ : ∃ i : Nat, zj = (i : Int) := ⟨zj.toNat, by omega⟩
    have hjB : j < B.size := by omega
    obtain ⟨D, hD⟩ : ∃ D : Nat, B[j].toNat = D := ⟨_, rfl⟩
    have hcv := run_convert_bytes_arg (P := Try.prog) (w3.alloc (.cells #[.int .u8 (D : Int)] 5)) 22 5 Try.underlying22 Try.underlying5 w3.heap.size 0 1 1 [(D : Int)] rfl (fun i hi => by
      obtain rfl : i = 0 := by omega
      simp) 9 Try.underlying9
    have hXs : (strOfNums [(D : Int)]).size = 1 := rfl
    generalize strOfNums [(D : Int)] = X at hcv hXs
    have C3 : Hid (Cur (w3.alloc (.cells #[.int .u8 (D : Int)] 5)) g ao n c (M + 2 + 6 * (2 - (k : Int)) + 2 + 2)) := hc1.alloc _
    have G3 : Hid (GB g w (w3.alloc (.cells #[.int .u8 (D : Int)] 5))) := (G2.out.trans hg1).alloc _
    clear hc1 hg1 C2 G2
    go_wp2_with fail
    refine (pick_c g ao n c _ 3 _ (by omega) (by omega) C3.out).mono ?_
    rintro e w4 ⟨zp, rfl, hp0, hp1, hc1, hg1⟩
    have C4 : Hid (Cur w4 g ao n c (M + 2 + 6 * (2 - (k : Int)) + 2 + 2 + 2)) := hc1
    have G4 : Hid (GB g w w4) := G3.out.trans hg1
    clear hc1 hg1 C3 G3 hcv hD hj0 hj1 hjB hB4
    have e1 : (S.extract 0 i).size = i := by rw [ByteArray.size_extract]; omega
    have e2 : (S.extract i S.size).size = S.size - i := by rw [ByteArray.size_extract]; omega
    have e3 : (S.extract (i + 1) S.size).size = S.size - (i + 1) := by rw [ByteArray.size_extract]; omega
    have hi2 : (i : Int) ≤ (S.size : Int) := by omega
    have hi3 : (i : Int) + 1 ≤ (S.size : Int) := by omega
    have hi4 : (0 : Int) ≤ (i : Int) + 1 := by omega
    have c1 : (S.extract 0 i).size + X.size ≤ 9223372036854775807 := by omega
    have c2 : (S.extract 0 i ++ X).size + (S.extract i S.size).size ≤ 9223372036854775807 := by rw [ByteArray.size_append]; omega
    have c3 : (S.extract 0 i ++ X).size + (S.extract (i + 1) S.size).size ≤ 9223372036854775807 := by rw [ByteArray.size_append]; omega
    have c4 : (S.extract 0 i).size + (S.extract (i + 1) S.size).size ≤ 9223372036854775807 := by omega
    have hbq : ∀ q, Below w4.heap.size w4 (w4.drewN q) := fun q => below_drewN (Below.refl _ _) q
    have ek : ((k - 1 : Nat) : Int) = (k : Int) - 1 := by omega
    by_cases hz0 : zp = 0
    · subst hz0
      go_wp2
      go_quiet (fail)
      go_wp2
      exact ⟨⟨_, k - 1, rfl, by go_num, by omega, by rw [ByteArray.size_append, ByteArray.size_append, e1, e2]; omega, (C4.out.later (hbq _)).mono (by omega), G4.out.drewN _⟩, by simp [intOf]; omega⟩
    · have hzb : (zp == 0) = false := by simpa using hz0
      by_cases hz1 : zp = 1
      · subst hz1
        go_wp2
        go_quiet (fail)
        go_wp2
        exact ⟨⟨_, k - 1, rfl, by go_num, by omega, by rw [ByteArray.size_append, ByteArray.size_append, e1, e3]; omega, (C4.out.later (hbq _)).mono (by omega), G4.out.drewN _⟩, by simp [intOf]; omega⟩
      · have hzc : (zp == 1) = false := by simpa using hz1
        go_wp2
        go_quiet (fail)
        go_wp2
        exact ⟨⟨_, k - 1, rfl, by go_num, by omega, by rw [ByteArray.size_append, e1, e3]; omega, (C4.out.later (hbq _)).mono (by omega), G4.out.drewN _⟩, by simp [intOf]; omega⟩


set_option maxHeartbeats 1000000 in
theorem body_c (g : Nat) (ao : Option Addr) (n c : Nat) (M : Int) (w : World) (hM : M ≤ 1000000) (h : Cur w g ao n c M) :
    Calls Try.prog 44 #[.pointer (some ⟨g, 0, none⟩)] w fun e w' => ∃ s : ByteArray, e = .returned (.string s) ∧ s.size ≤ 100 ∧ Cur w' g ao n c (M + 2) ∧ GB g w w' := by
  have C0 : Hid (Cur w g ao n c M) := h
  have hgd : g < w.heap.size := h.lt
  have hlit := litS_cells w #[.string ⟨#[]⟩, .string ⟨#[97]⟩, .string ⟨#[104, 101, 108, 108, 111]⟩, .string ⟨#[102, 105, 102, 116, 101, 101, 110, 32, 98, 121, 116, 101, 115, 46, 46]⟩, .string ⟨#[115, 105, 120, 116, 101, 101, 110, 32, 98, 121, 116, 101, 115, 46, 46, 46]⟩, .string ⟨#[128, 0]⟩, .string ⟨#[101, 110, 100, 115, 0]⟩] 9 7 rfl (by simp [allS, ByteArray.size])
  clear h
  go_enter Try.func44, Try.ntmps44
  go_wp2_with fail
  refine (of_c g ao n c M w.heap.size 7 _ (by omega) (by omega) hlit (by omega) (C0.out.alloc _)).mono ?_
  rintro e w5 ⟨s, rfl, hs, hc1, hg1⟩
  have C5 : Hid (Cur w5 g ao n c (M + 2)) := hc1
  have G5 : Hid (GB g w w5) := ((GB.refl g w).alloc _).trans hg1
  clear hc1 hg1 hlit
  go_wp2
  go_ret
  exact ⟨s, rfl, hs, C5.out, G5.out⟩

theorem drawPadBody_c (ao : Option Addr) (n c : Nat) (w : World) (hn : n ≤ 9223372036854775807) (h : CodeOk w w.heap.size ao n) :
    Calls Try.prog 23 #[.slice ao n c] w fun e w' => ∃ s : ByteArray, e = .returned (.string s) ∧ s.size ≤ 100 ∧ Below w.heap.size w w' := by
  have C0 : Hid (Cur (w.alloc (.cells #[.slice ao n c, .int .i64 0, .int .u64 0] 62)) w.heap.size ao n c 0) := cur_new _ hn h
  have G0 : Hid (GB w.heap.size w (w.alloc (.cells #[.slice ao n c, .int .i64 0, .int .u64 0] 62))) := (GB.refl _ _).alloc _
  clear h
  go_enter Try.func23, Try.ntmps23
  go_wp2_with fail
  refine (body_c w.heap.size ao n c 0 _ (by omega) C0.out).mono ?_
  rintro e w1 ⟨s, rfl, hs, hc1, hg1⟩
  have G1 : Hid (GB w.heap.size w w1) := G0.out.trans hg1
  clear hc1 hg1 C0 G0
  go_wp2
  go_ret
  exact ⟨s, rfl, hs, G1.out.below (Nat.le_refl _) (Nat.le_refl _)⟩

set_option maxHeartbeats 1000000 in
theorem drawUnpad_c (ao : Option Addr) (n c : Nat) (w : World) (hn : n ≤ 9223372036854775807) (h : CodeOk w w.heap.size ao n) :
    Calls Try.prog 27 #[.slice ao n c] w fun e w' => ∃ s : ByteArray, e = .returned (.string s) ∧ s.size ≤ 200 ∧ Below w.heap.size w w' := by
  have C0 : Hid (Cur (w.alloc (.cells #[.slice ao n c, .int .i64 0, .int .u64 0] 62)) w.heap.size ao n c 0) := cur_new _ hn h
  have G0 : Hid (GB w.heap.size w (w.alloc (.cells #[.slice ao n c, .int .i64 0, .int .u64 0] 62))) := (GB.refl _ _).alloc _
  clear h
  go_enter Try.func27, Try.ntmps27
  go_wp2_with fail
  refine (body_c w.heap.size ao n c 0 _ (by omega) C0.out).mono ?_
  rintro e w1 ⟨s, rfl, hs, hc1, hg1⟩
  have C1 : Hid (Cur w1 w.heap.size ao n c 2) := hc1
  have G1 : Hid (GB w.heap.size w w1) := G0.out.trans hg1
  obtain ⟨t, fb, hF⟩ : ∃ t fb, padBF s = (t, fb) := ⟨_, _, rfl⟩
  have ht : t.size ≤ 100 := by
    unfold padBF at hF
    by_cases h : s.size < 16
    · rw [if_pos h] at hF; rw [← (Prod.mk.inj hF).1, tx_size, padB_length (by rw [bl_length]; exact h)]; omega
    · rw [if_neg h] at hF; rw [← (Prod.mk.inj hF).1]; decide
  have HF : Hid (padBF s = (t, fb)) := hF
  clear hc1 hg1 C0 G0 hF
  go_wp2_with fail
  refine (specPadBody_c s _ (by omega) t fb HF.out).mono ?_
  rintro e w2 ⟨rfl, hb⟩
  have C2 : Hid (Cur w2 w.heap.size ao n c 2) := C1.out.later hb
  have G2 : Hid (GB w.heap.size w w2) := G1.out.trans (GB.of_below hb (Nat.le_refl _))
  clear hb C1 G1 HF
  go_wp2_with fail
  refine (one_c w.heap.size ao n c 2 3 _ (by omega) (by omega) C2.out).mono ?_
  rintro e w3 ⟨z, rfl, hc1, hg1⟩
  have C3 : Hid (Cur w3 w.heap.size ao n c 4) := hc1
  have G3 : Hid (GB w.heap.size w w3) := G2.out.trans hg1
  clear hc1 hg1 C2 G2
  cases z
  · go_wp2
    go_ret
    exact ⟨t, rfl, by omega, G3.out.below (Nat.le_refl _) (Nat.le_refl _)⟩
  · go_wp2_with fail
    refine (spoilt_c w.heap.size ao n c 4 t ⟨#[128, 0, 97]⟩ _ (by omega) (by omega) rfl C3.out).mono ?_
    rintro e w4 ⟨s2, rfl, hs2, hc1, hg1⟩
    have G4 : Hid (GB w.heap.size w w4) := G3.out.trans hg1
    clear hc1 hg1 C3 G3
    go_wp2
    go_ret
    exact ⟨s2, rfl, by omega, G4.out.below (Nat.le_refl _) (Nat.le_refl _)⟩

set_option maxHeartbeats 1000000 in
theorem drawPadFor_c (ao : Option Addr) (n c : Nat) (w : World) (hn : n ≤ 9223372036854775807) (h : CodeOk w w.heap.size ao n) :
    Calls Try.prog 32 #[.slice ao n c] w fun e w' => ∃ x y : Int, e = .returned (.tuple #[.int .i64 x, .int .i64 y]) ∧ Below w.heap.size w w' := by
  have C0 : Hid (Cur (w.alloc (.cells #[.slice ao n c, .int .i64 0, .int .u64 0] 62)) w.heap.size ao n c 0) := cur_new _ hn h
  have G0 : Hid (GB w.heap.size w (w.alloc (.cells #[.slice ao n c, .int .i64 0, .int .u64 0] 62))) := (GB.refl _ _).alloc _
  clear h
  go_enter Try.func32, Try.ntmps32
  go_wp2_with fail
  refine (block_c w.heap.size ao n c 0 _ (by omega) C0.out).mono ?_
  rintro e w1 ⟨x, rfl, hc1, hg1⟩
  have C1 : Hid (Cur w1 w.heap.size ao n c 10) := hc1
  have G1 : Hid (GB w.heap.size w w1) := G0.out.trans hg1
  clear hc1 hg1 C0 G0
  have hlit := lit_cells (fun _ => True) w1 #[.int .i64 (-2), .int .i64 0, .int .i64 1, .int .i64 2, .int .i64 24, .int .i64 40, .int .i64 42] 3 7 rfl ⟨trivial, trivial, trivial, trivial, trivial, trivial, trivial, trivial⟩
  have hgd : w.heap.size < w1.heap.size := C1.out.lt
  go_wp2_with fail
  refine (among_p (fun _ => True) w.heap.size ao n c _ w1.heap.size 7 _ (by omega) (by omega) hlit (by omega) (C1.out.alloc _)).mono ?_
  rintro e w2 ⟨y, rfl, _, hc1, hg1⟩
  have G2 : Hid (GB w.heap.size w w2) := (G1.out.alloc _).trans hg1
  clear hc1 hg1 C1 G1 hlit
  go_wp2
  refine bodyPost_ret (v := .tuple #[.int .i64 x, .int .i64 y]) (by simp [results, Try.results32, go_sem]; try rfl) rfl ?_
  exact ⟨x, y, rfl, G2.out.below (Nat.le_refl _) (Nat.le_refl _)⟩

end Go.Proofs.Ytnfoflijapbkdaa
