/- Chapter 7, the program: bodies told again. -/
import Derived.Test.YtnfoflijapbkdaaK7
import Derived.Lib.Strings
import Derived.Lib.Walk
namespace Go.Proofs.Ytnfoflijapbkdaa
set_option linter.unusedVariables false
set_option maxRecDepth 1000000
set_option linter.unusedSimpArgs false
open Go.RowKit

set_option maxHeartbeats 4000000 in
/-- The library's copy of a text: the same bytes. -/
theorem clone_c (s : ByteArray) (w : World) (hlim : s.size ≤ 1000) :
    Calls Try.prog 75 #[.string s] w fun e w' => e = .returned (.string s) ∧ Below w.heap.size w w' := by
  by_cases h0 : s.size = 0
  · have hs : s = ⟨#[]⟩ := by
      apply ByteArray.ext
      exact Array.eq_empty_of_size_eq_zero h0
    subst hs
    go_enter Try.func75, Try.ntmps75
    go_wp2
    go_ret
    exact ⟨rfl, Below.refl _ _⟩
  · obtain ⟨i0, hi, hz0, hz1, hz2⟩ := info_parts Try.infoByte
    have hinfo : (Try.prog.info? 5).map (·.size) = some 1 := by rw [hi]; simp [hz1]
    have hco : Try.prog.cellsOf 5 = 1 := by simp [Program.cellsOf, hi, hz1]
    obtain ⟨M, hM⟩ : ∃ M, M = madeCells (Value.int .u8 0).cells (((s.size : Nat) : Int).toNat * i0.size) := ⟨_, rfl⟩
    have hMs : M.size = s.size := by rw [hM, size_madeCells, hz1]; simp
    have hmk : ∀ W : World, (Instr.makeSlice 22 (.int .i64 (s.size : Int)) (.int .i64 (s.size : Int))).run Try.prog W = .ok (.slice (some ⟨W.heap.size, 0, none⟩) s.size s.size) (W.alloc (.cells M 5)) := fun W => by
      have h := run_make (P := Try.prog) W 22 5 i0 (.int .u8 0) Try.underlying22 hi hz0 .i64 .i64 (s.size : Int) (s.size : Int) (by omega) (by omega) (by rw [hz2]; omega) (by omega)
      rw [← hM] at h
      simpa using h
    clear hM
    have hcp := Lib.run_copy_row_string (P := Try.prog) (w.alloc (.cells M 5)) 22 9 3 5 w.heap.size 0 s.size s.size s M 5 Try.underlying22 hinfo (heap_alloc_new w _) (Nat.le_refl _) (by omega)
    obtain ⟨Y, hY⟩ : ∃ Y, Y = (M.toList.take 0 ++ Lib.byteCells s.data.toList ++ M.toList.drop (0 + s.size)).toArray := ⟨_, rfl⟩
    rw [← hY] at hcp
    have hYl : Y.toList = Lib.byteCells s.data.toList := by
      rw [hY, List.toList_toArray, List.take_zero, List.nil_append, List.drop_of_length_le (by rw [Array.length_toList]; omega), List.append_nil]
    have hYs : Y.size = s.size := by rw [← Array.length_toList, hYl, Lib.byteCells_length, ← Lib.size_eq]
    have hgY : ((w.alloc (.cells M 5)).setRow w.heap.size Y).heap[w.heap.size]? = some (.cells Y 5 (0, 0)) := setRow_heap _ _ M _ 5 (0, 0) (heap_alloc_new w _)
    have hne : s.data.toList ≠ [] := fun e => h0 (by rw [Lib.size_eq, e]; rfl)
    have hUS := Lib.run_unsafeString_row (P := Try.prog) ((w.alloc (.cells M 5)).setRow w.heap.size Y) 97 3 9 5 Try.underlying97 hco w.heap.size Y.size (by unfold World.shape?; rw [hgY]) s.data.toList hne (by rw [← Lib.size_eq]; omega) (by rw [← Lib.size_eq]; omega)
      (fun j x hx => Lib.cells_of_row hgY Y.size j _ (by rw [List.take_of_length_le (by rw [Array.length_toList]; exact Nat.le_refl _), hYl]; simp [Lib.byteCells, hx]))
    rw [← Lib.size_eq] at hUS
    clear hY
    go_enter Try.func75, Try.ntmps75
    go_wp2
    go_ret
    have hb1 : Below w.heap.size w (w.alloc (.cells M 5)) := (Below.refl _ w).alloc (Nat.le_refl _) _
    have hb2 : Below w.heap.size (w.alloc (.cells M 5)) ((w.alloc (.cells M 5)).setRow w.heap.size Y) := ⟨rfl, rfl, rfl, by simp, fun k hk => setRow_other _ _ _ _ (by omega)⟩
    exact ⟨rfl, Lib.below_freeze (hb1.trans hb2) (p := ⟨w.heap.size, 0, none⟩) (Nat.le_refl _) _⟩

theorem strClone_c (s : ByteArray) (w : World) (hlim : s.size ≤ 1000) :
    Calls Try.prog 64 #[.string s] w fun e w' => e = .returned (.string s) ∧ Below w.heap.size w w' := by
  go_enter Try.func64, Try.ntmps64
  go_wp2_with fail
  refine (clone_c s _ hlim).mono ?_
  rintro e w' ⟨rfl, hb⟩
  have HB : Hid (Below w.heap.size w w') := hb
  clear hb
  go_wp2
  go_ret
  exact ⟨rfl, HB.out⟩

theorem extract_take (s : ByteArray) (p : Nat) : s.extract 0 p = tx ((bl s).take p) := by
  have h := ByteArray.extract_mk (bl s) 0 p
  rw [show ByteArray.mk (bl s).toArray = s from tx_bl s] at h
  rw [h]
  simp [tx]
theorem tx_take_size (s : ByteArray) (p : Nat) (h : p ≤ s.size) : (tx ((bl s).take p)).size = p := by
  rw [tx_size, List.length_take, bl_length]; omega

/-- What a body ends in: nothing but bytes 0 behind it, then the byte 128. -/
theorem unpadF_not {s : ByteArray} (h : s.size ≠ 16) : unpadF s = (ByteArray.empty, false) := by
  unfold unpadF unpadB
  rw [if_neg (by rw [bl_length]; exact fun e => h e.1)]
theorem unpadF_at {s : ByteArray} (h : s.size = 16) : unpadF s = if (bl s).getD (lastP (bl s) 15) 0 = 128 then (tx ((bl s).take (lastP (bl s) 15)), true) else (ByteArray.empty, false) := by
  unfold unpadF unpadB
  by_cases e : (bl s).getD (lastP (bl s) 15) 0 = 128
  · rw [if_pos ⟨by rw [bl_length]; exact h, e⟩, if_pos e]
  · rw [if_neg (fun h => e h.2), if_neg e]
theorem byte_eq {x y : UInt8} (h : x.toNat = y.toNat) : x = y := UInt8.toNat.inj h

set_option maxHeartbeats 1000000 in
theorem implUnpad_c (s : ByteArray) (w : World) (hs : s.size ≤ 17592186044416) (t : ByteArray) (fb : Bool) (hF : unpadF s = (t, fb)) :
    Calls Try.prog 26 #[.string s] w fun e w' => e = .returned (.tuple #[.string t, .bool fb]) ∧ Below w.heap.size w w' := by
  by_cases h : s.size = 16
  · have i1 : ((s.size : Int) != 16) = false := by rw [bne_eq_false_iff_eq]; omega
    rw [unpadF_at h] at hF
    have hsz : s.size = 16 := h
    have HF : Hid ((if (bl s).getD (lastP (bl s) 15) 0 = 128 then (tx ((bl s).take (lastP (bl s) 15)), true) else (ByteArray.empty, false)) = (t, fb)) := hF
    have HZ : Hid (s.size = 16) := h
    clear hF hsz h
    go_enter Try.func26, Try.ntmps26
    go_wp2
    go_loop [4] (fun v => ∃ p : Nat, p ≤ 15 ∧ v = .int .i64 p ∧ Hid (lastP (bl s) 15 = lastP (bl s) p)) (fun v => (intOf v).toNat)
    case atStart => exact ⟨15, by omega, rfl, rfl⟩
    case round =>
      obtain ⟨p, hp, rfl, HP⟩ := hrel
      have hps : p < s.size := by have := HZ.out; omega
      have hb := byte_at s p hps
      have h1 : (0 : Int) ≤ (p : Int) := by omega
      have h2 : (p : Int) < (s.size : Int) := by omega
      by_cases h0 : p = 0
      · subst h0
        have HQ : Hid ((if bN (bl s) 0 = 128 then (tx ((bl s).take 0), true) else (ByteArray.empty, false)) = (t, fb)) := by
          show _ = _
          rw [← HF.out, HP.out]
          show _ = if (bl s).getD 0 0 = 128 then (tx ((bl s).take 0), true) else _
          by_cases e : (bl s).getD 0 0 = 128
          · rw [if_pos e, if_pos (by unfold bN; rw [e]; rfl)]
          · rw [if_neg e, if_neg (show ¬ bN (bl s) 0 = 128 from fun h => e (byte_eq h))]
        have HE : Hid (s.extract 0 0 = tx ((bl s).take 0)) := extract_take s 0
        have HSZ : Hid ((tx ((bl s).take 0)).size ≤ 1000) := by show _ ≤ _; rw [tx_take_size s 0 (by omega)]; omega
        generalize bN (bl s) 0 = b at hb HQ
        clear HF HP
        by_cases e : b = 128
        · have e1 : ((b : Int) != 128) = false := by rw [bne_eq_false_iff_eq]; omega
          have HQ2 := HQ.out
          rw [if_pos e] at HQ2
          simp only [Prod.mk.injEq] at HQ2
          obtain ⟨hq1, hq2⟩ := HQ2
          subst hq2
          have HT : Hid (t = ByteArray.empty) := hq1.symm.trans rfl
          have hcl := fun wx => strClone_c ByteArray.empty wx (by decide)
          clear hq1 HQ HE HSZ e
          go_wp2_with (go_at_call 64; refine (hcl _).mono ?_; clear hcl; rintro e w' ⟨rfl, hbe⟩; have HB : Hid (Below w.heap.size w w') := hbe; clear hbe)
          refine bodyPost_ret (v := .tuple #[.string ByteArray.empty, .bool true]) (by simp [results, Try.results26, go_sem]; try rfl) rfl ?_
          exact ⟨by rw [HT.out], HB.out⟩
        · have e1 : ((b : Int) != 128) = true := by rw [bne_iff_ne]; omega
          have HQ2 := HQ.out
          rw [if_neg e] at HQ2
          simp only [Prod.mk.injEq] at HQ2
          obtain ⟨rfl, rfl⟩ := HQ2
          clear HQ HE HSZ e
          go_wp2
          refine bodyPost_ret (v := .tuple #[.string ByteArray.empty, .bool false]) (by simp [results, Try.results26, go_sem]; try rfl) rfl ?_
          exact ⟨rfl, Below.refl _ _⟩
      · obtain ⟨q, rfl⟩ : ∃ q, p = q + 1 := ⟨p - 1, by omega⟩
        have h3 : (0 : Int) < ((q + 1 : Nat) : Int) := by omega
        by_cases hz : (bl s).getD (q + 1) 0 = 0
        · have hbz : bN (bl s) (q + 1) = 0 := by unfold bN; rw [hz]; rfl
          rw [hbz] at hb
          have HP2 : Hid (lastP (bl s) 15 = lastP (bl s) q) := by show _ = _; rw [HP.out, lastP, if_pos hz]
          clear hz hbz HP h0
          generalize hP : q + 1 = P at *
          have HPP : Hid (q + 1 = P) := hP
          clear hP
          go_wp2
          go_round
          case rel => exact ⟨q, by have := HPP.out; omega, by have := HPP.out; go_num, HP2⟩
          case measure => have := HPP.out; simp [intOf]; omega
        · have hbz : bN (bl s) (q + 1) ≠ 0 := fun h => hz (byte_eq h)
          have HP2 : Hid (lastP (bl s) 15 = q + 1) := by show _ = _; rw [HP.out, lastP, if_neg hz]
          have HQ : Hid ((if bN (bl s) (q + 1) = 128 then (tx ((bl s).take (q + 1)), true) else (ByteArray.empty, false)) = (t, fb)) := by
            show _ = _
            rw [← HF.out, HP2.out]
            by_cases e : (bl s).getD (q + 1) 0 = 128
            · rw [if_pos e, if_pos (by unfold bN; rw [e]; rfl)]
            · rw [if_neg e, if_neg (show ¬ bN (bl s) (q + 1) = 128 from fun h => e (byte_eq h))]
          have HE : Hid (s.extract 0 (q + 1) = tx ((bl s).take (q + 1))) := extract_take s (q + 1)
          have HSZ : Hid ((tx ((bl s).take (q + 1))).size ≤ 1000) := by show _ ≤ _; rw [tx_take_size s (q + 1) (by omega)]; omega
          generalize bN (bl s) (q + 1) = b at hb HQ hbz
          clear HF HP HP2 hz h0
          generalize q + 1 = P at *
          have e0 : ((b : Int) == 0) = false := by rw [beq_eq_false_iff_ne]; omega
          have h5 : (P : Int) ≤ (s.size : Int) := by omega
          by_cases e : b = 128
          · have e1 : ((b : Int) != 128) = false := by rw [bne_eq_false_iff_eq]; omega
            have HQ2 := HQ.out
            rw [if_pos e] at HQ2
            simp only [Prod.mk.injEq] at HQ2
            obtain ⟨hq1, hq2⟩ := HQ2
            subst hq2
            have hE := HE.out.trans hq1
            have hcl := fun wx => strClone_c t wx (by rw [← hq1]; exact HSZ.out)
            clear hq1
            clear HQ HE HSZ e hbz
            go_wp2_with (go_at_call 64; refine (hcl _).mono ?_; clear hcl; rintro e w' ⟨rfl, hbe⟩; have HB : Hid (Below w.heap.size w w') := hbe; clear hbe)
            refine bodyPost_ret (v := .tuple #[.string t, .bool true]) (by simp [results, Try.results26, go_sem]; try rfl) rfl ?_
            exact ⟨rfl, HB.out⟩
          · have e1 : ((b : Int) != 128) = true := by rw [bne_iff_ne]; omega
            have HQ2 := HQ.out
            rw [if_neg e] at HQ2
            simp only [Prod.mk.injEq] at HQ2
            obtain ⟨rfl, rfl⟩ := HQ2
            clear HQ HE HSZ e hbz
            go_wp2
            refine bodyPost_ret (v := .tuple #[.string ByteArray.empty, .bool false]) (by simp [results, Try.results26, go_sem]; try rfl) rfl ?_
            exact ⟨rfl, Below.refl _ _⟩
  · have i1 : ((s.size : Int) != 16) = true := by rw [bne_iff_ne]; omega
    rw [unpadF_not h] at hF
    simp only [Prod.mk.injEq] at hF
    obtain ⟨rfl, rfl⟩ := hF
    go_enter Try.func26, Try.ntmps26
    go_wp2
    refine bodyPost_ret (v := .tuple #[.string ByteArray.empty, .bool false]) (by simp [results, Try.results26, go_sem]; try rfl) rfl ?_
    exact ⟨rfl, Below.refl _ _⟩

end Go.Proofs.Ytnfoflijapbkdaa
