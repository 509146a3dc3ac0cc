/- Chapter 7, the program: bodies told again. -/
import Derived.Test.YtnfoflijapbkdaaK7
import Derived.Lib.Strings
import Derived.Lib.Walk
namespace Go.Proofs.Ytnfoflijapbkdaa
set_option linter.unusedVariables false
set_option maxRecDepth 1000000
set_option linter.unusedSimpArgs false
open Go.RowKit

theorem shape_setCell (w : World) (a : Addr) (v : Value) (g : Nat) : (w.setCell a v).shape? g = w.shape? g := by
  unfold World.shape? World.setCell
  rw [Array.getElem?_modify]
  by_cases h : a.block = g
  · subst h
    rw [if_pos rfl]
    cases hw : w.heap[a.block]? with
    | none => rfl
    | some o =>
      cases o <;> simp
      split <;> simp
  · rw [if_neg h]
theorem shape_setCells (g b : Nat) : ∀ (vs : List Value) (o : Nat) (w : World), (w.setCells b o vs).shape? g = w.shape? g
  | [], _, _ => rfl
  | v :: r, o, w => by rw [World.setCells, shape_setCells g b r, shape_setCell]
theorem over_all (s : ByteArray) : overB (zeros s.size) 0 (bl s) = bl s := by
  unfold overB
  rw [List.take_zero, List.nil_append, List.drop_of_length_le (by rw [bl_length]; simp [zeros]), List.append_nil]

set_option maxHeartbeats 4000000 in
/-- A text that is copied is the same text; nothing that was there has turned. -/
theorem clone_c (s : ByteArray) (w : World) (hlim : s.size ≤ 1000) :
    Calls Try.prog 75 #[.string s] w fun e w' => e = .returned (.string s) ∧ Below w.heap.size w w' := by
  by_cases h0 : s.size = 0
  · obtain rfl : s = ByteArray.empty := bl_inj (by rw [List.length_eq_zero_iff.1 ((bl_length s).trans h0)]; rfl)
    go_enter Try.func75, Try.ntmps75
    go_wp2
    go_ret
    exact ⟨rfl, Below.refl _ _⟩
  · obtain ⟨M, hmk, hrow⟩ := make_run s.size hlim
    have hz : (zeros s.size).length = s.size := by simp [zeros]
    have hM : s.size ≤ M.size := by
      have h := (hrow w).1 (s.size - 1) (by rw [hz]; omega)
      rw [World.cell?_alloc_mark] at h
      have := (Array.getElem?_eq_some_iff.1 h).1
      omega
    have hcp : ∀ ty, (Builtin.copy_ #[22, 9] ty #[.slice (some ⟨w.heap.size, 0, none⟩) s.size s.size, .string s]).run Try.prog (w.alloc (.cells M 5)) = .ok (goInt s.size) ((w.alloc (.cells M 5)).setCells w.heap.size 0 (cellsB (bl s))) := fun ty =>
      run_copy_string (P := Try.prog) (w.alloc (.cells M 5)) 22 9 ty 5 w.heap.size 0 s.size s.size s Try.underlying22 (fun w => by kernel_rfl) (Nat.le_refl _) (fun j hj => by rw [Nat.zero_add, (hrow w).1 j (by rw [hz]; exact hj)]; rfl) (fun j hj => by rw [Nat.zero_add]; exact (hrow w).2 j (by rw [hz]; exact hj))
    have hr1 := (hrow w).sets (o := 0) (m := bl s) (by rw [hz, bl_length]; omega)
    rw [over_all] at hr1
    have hb1 : Below w.heap.size w ((w.alloc (.cells M 5)).setCells w.heap.size 0 (cellsB (bl s))) := (balloc w _).trans (below_grown (grown_setCells _ _ _ _) (Nat.le_refl _) (by simp))
    have hs1 : ((w.alloc (.cells M 5)).setCells w.heap.size 0 (cellsB (bl s))).shape? w.heap.size = some (5, M.size) := by
      rw [shape_setCells]
      unfold World.shape?
      rw [heap_alloc_new w _]
    generalize (w.alloc (.cells M 5)).setCells w.heap.size 0 (cellsB (bl s)) = V at hcp hr1 hb1 hs1
    have hus := Lib.run_unsafeString_row (P := Try.prog) V 97 3 9 5 Try.underlying97 (by kernel_rfl) w.heap.size M.size hs1 (bl s) (fun e => h0 (by rw [← bl_length s, e]; rfl)) (by rw [bl_length]; exact hM) (by rw [bl_length]; omega)
      (fun j x hx => by
        have hj := (List.getElem?_eq_some_iff.1 hx).1
        rw [Go.WideShapes.add_plain, Nat.zero_add, hr1.1 j hj]
        unfold bN
        rw [List.getD, hx]
        rfl)
    rw [bl_length, show (⟨(bl s).toArray⟩ : ByteArray) = s from tx_bl s] at hus
    have HB : Hid (Below w.heap.size w (V.freeze ⟨w.heap.size, 0, none⟩ s.size)) := Lib.below_freeze hb1 (p := ⟨w.heap.size, 0, none⟩) (Nat.le_refl _) _
    have hne : ((s.size : Int) == 0) = false := by rw [beq_eq_false_iff_ne]; omega
    have hpos : (0 : Int) < (s.size : Int) := by omega
    clear hrow hr1 hb1 hs1 hM hz
    go_enter Try.func75, Try.ntmps75
    go_wp2
    go_ret
    exact ⟨rfl, HB.out⟩

theorem strClone_c (s : ByteArray) (w : World) (hlim : s.size ≤ 1000) :
    Calls Try.prog 64 #[.string s] w fun e w' => e = .returned (.string s) ∧ Below w.heap.size w w' := by
  go_enter Try.func64, Try.ntmps64
  go_wp2_with fail
  refine (clone_c s _ hlim).mono ?_
  rintro e w' ⟨rfl, hb⟩
  have HB : Hid (Below w.heap.size w w') := hb
  clear hb
  go_wp2
  go_ret
  exact ⟨rfl, HB.out⟩

theorem extract_take (s : ByteArray) (p : Nat) : s.extract 0 p = tx ((bl s).take p) := by
  have h := ByteArray.extract_mk (bl s) 0 p
  rw [show ByteArray.mk (bl s).toArray = s from tx_bl s] at h
  rw [h]
  simp [tx]
theorem tx_take_size (s : ByteArray) (p : Nat) (h : p ≤ s.size) : (tx ((bl s).take p)).size = p := by
  rw [tx_size, List.length_take, bl_length]; omega

/-- What a body ends in: nothing but bytes 0 behind it, then the byte 128. -/
theorem unpadF_not {s : ByteArray} (h : s.size ≠ 16) : unpadF s = (ByteArray.empty, false) := by
  unfold unpadF unpadB
  rw [if_neg (by rw [bl_length]; exact fun e => h e.1)]
theorem unpadF_at {s : ByteArray} (h : s.size = 16) : unpadF s = if (bl s).getD (lastP (bl s) 15) 0 = 128 then (tx ((bl s).take (lastP (bl s) 15)), true) else (ByteArray.empty, false) := by
  unfold unpadF unpadB
  by_cases e : (bl s).getD (lastP (bl s) 15) 0 = 128
  · rw [if_pos ⟨by rw [bl_length]; exact h, e⟩, if_pos e]
  · rw [if_neg (fun h => e h.2), if_neg e]
theorem byte_eq {x y : UInt8} (h : x.toNat = y.toNat) : x = y := UInt8.toNat.inj h

set_option maxHeartbeats 1000000 in
theorem implUnpad_c (s : ByteArray) (w : World) (hs : s.size ≤ 17592186044416) (t : ByteArray) (fb : Bool) (hF : unpadF s = (t, fb)) :
    Calls Try.prog 26 #[.string s] w fun e w' => e = .returned (.tuple #[.string t, .bool fb]) ∧ Below w.heap.size w w' := by
  by_cases h : s.size = 16
  · have i1 : ((s.size : Int) != 16) = false := by rw [bne_eq_false_iff_eq]; omega
    rw [unpadF_at h] at hF
    have hsz : s.size = 16 := h
    have HF : Hid ((if (bl s).getD (lastP (bl s) 15) 0 = 128 then (tx ((bl s).take (lastP (bl s) 15)), true) else (ByteArray.empty, false)) = (t, fb)) := hF
    have HZ : Hid (s.size = 16) := h
    clear hF hsz h
    go_enter Try.func26, Try.ntmps26
    go_wp2
    go_loop [4] (fun v => ∃ p : Nat, p ≤ 15 ∧ v = .int .i64 p ∧ Hid (lastP (bl s) 15 = lastP (bl s) p)) (fun v => (intOf v).toNat)
    case atStart => exact ⟨15, by omega, rfl, rfl⟩
    case round =>
      obtain ⟨p, hp, rfl, HP⟩ := hrel
      have hps : p < s.size := by have := HZ.out; omega
      have hb := byte_at s p hps
      have h1 : (0 : Int) ≤ (p : Int) := by omega
      have h2 : (p : Int) < (s.size : Int) := by omega
      by_cases h0 : p = 0
      · subst h0
        have HQ : Hid ((if bN (bl s) 0 = 128 then (tx ((bl s).take 0), true) else (ByteArray.empty, false)) = (t, fb)) := by
          show _ = _
          rw [← HF.out, HP.out]
          show _ = if (bl s).getD 0 0 = 128 then (tx ((bl s).take 0), true) else _
          by_cases e : (bl s).getD 0 0 = 128
          · rw [if_pos e, if_pos (by unfold bN; rw [e]; rfl)]
          · rw [if_neg e, if_neg (show ¬ bN (bl s) 0 = 128 from fun h => e (byte_eq h))]
        have HE : Hid (s.extract 0 0 = tx ((bl s).take 0)) := extract_take s 0
        have HSZ : Hid ((tx ((bl s).take 0)).size ≤ 1000) := by show _ ≤ _; rw [tx_take_size s 0 (by omega)]; omega
        generalize bN (bl s) 0 = b at hb HQ
        clear HF HP
        by_cases e : b = 128
        · have e1 : ((b : Int) != 128) = false := by rw [bne_eq_false_iff_eq]; omega
          have HQ2 := HQ.out
          rw [if_pos e] at HQ2
          simp only [Prod.mk.injEq] at HQ2
          obtain ⟨hq1, hq2⟩ := HQ2
          subst hq2
          have HT : Hid (t = ByteArray.empty) := hq1.symm.trans rfl
          have hcl := fun wx => strClone_c ByteArray.empty wx (by decide)
          clear hq1 HQ HE HSZ e
          go_wp2_with (go_at_call 64; refine (hcl _).mono ?_; clear hcl; rintro e w' ⟨rfl, hbe⟩; have HB : Hid (Below w.heap.size w w') := hbe; clear hbe)
          refine bodyPost_ret (v := .tuple #[.string ByteArray.empty, .bool true]) (by simp [results, Try.results26, go_sem]; try rfl) rfl ?_
          exact ⟨by rw [HT.out], HB.out⟩
        · have e1 : ((b : Int) != 128) = true := by rw [bne_iff_ne]; omega
          have HQ2 := HQ.out
          rw [if_neg e] at HQ2
          simp only [Prod.mk.injEq] at HQ2
          obtain ⟨rfl, rfl⟩ := HQ2
          clear HQ HE HSZ e
          go_wp2
          refine bodyPost_ret (v := .tuple #[.string ByteArray.empty, .bool false]) (by simp [results, Try.results26, go_sem]; try rfl) rfl ?_
          exact ⟨rfl, Below.refl _ _⟩
      · obtain ⟨q, rfl⟩ : ∃ q, p = q + 1 := ⟨p - 1, by omega⟩
        have h3 : (0 : Int) < ((q + 1 : Nat) : Int) := by omega
        by_cases hz : (bl s).getD (q + 1) 0 = 0
        · have hbz : bN (bl s) (q + 1) = 0 := by unfold bN; rw [hz]; rfl
          rw [hbz] at hb
          have HP2 : Hid (lastP (bl s) 15 = lastP (bl s) q) := by show _ = _; rw [HP.out, lastP, if_pos hz]
          clear hz hbz HP h0
          generalize hP : q + 1 = P at *
          have HPP : Hid (q + 1 = P) := hP
          clear hP
          go_wp2
          go_round
          case rel => exact ⟨q, by have := HPP.out; omega, by have := HPP.out; go_num, HP2⟩
          case measure => have := HPP.out; simp [intOf]; omega
        · have hbz : bN (bl s) (q + 1) ≠ 0 := fun h => hz (byte_eq h)
          have HP2 : Hid (lastP (bl s) 15 = q + 1) := by show _ = _; rw [HP.out, lastP, if_neg hz]
          have HQ : Hid ((if bN (bl s) (q + 1) = 128 then (tx ((bl s).take (q + 1)), true) else (ByteArray.empty, false)) = (t, fb)) := by
            show _ = _
            rw [← HF.out, HP2.out]
            by_cases e : (bl s).getD (q + 1) 0 = 128
            · rw [if_pos e, if_pos (by unfold bN; rw [e]; rfl)]
            · rw [if_neg e, if_neg (show ¬ bN (bl s) (q + 1) = 128 from fun h => e (byte_eq h))]
          have HE : Hid (s.extract 0 (q + 1) = tx ((bl s).take (q + 1))) := extract_take s (q + 1)
          have HSZ : Hid ((tx ((bl s).take (q + 1))).size ≤ 1000) := by show _ ≤ _; rw [tx_take_size s (q + 1) (by omega)]; omega
          generalize bN (bl s) (q + 1) = b at hb HQ hbz
          clear HF HP HP2 hz h0
          generalize q + 1 = P at *
          have e0 : ((b : Int) == 0) = false := by rw [beq_eq_false_iff_ne]; omega
          have h5 : (P : Int) ≤ (s.size : Int) := by omega
          by_cases e : b = 128
          · have e1 : ((b : Int) != 128) = false := by rw [bne_eq_false_iff_eq]; omega
            have HQ2 := HQ.out
            rw [if_pos e] at HQ2
            simp only [Prod.mk.injEq] at HQ2
            obtain ⟨hq1, hq2⟩ := HQ2
            subst hq2
            have hE := HE.out.trans hq1
            have hcl := fun wx => strClone_c t wx (by rw [← hq1]; exact HSZ.out)
            clear hq1
            clear HQ HE HSZ e hbz
            go_wp2_with (go_at_call 64; refine (hcl _).mono ?_; clear hcl; rintro e w' ⟨rfl, hbe⟩; have HB : Hid (Below w.heap.size w w') := hbe; clear hbe)
            refine bodyPost_ret (v := .tuple #[.string t, .bool true]) (by simp [results, Try.results26, go_sem]; try rfl) rfl ?_
            exact ⟨rfl, HB.out⟩
          · have e1 : ((b : Int) != 128) = true := by rw [bne_iff_ne]; omega
            have HQ2 := HQ.out
            rw [if_neg e] at HQ2
            simp only [Prod.mk.injEq] at HQ2
            obtain ⟨rfl, rfl⟩ := HQ2
            clear HQ HE HSZ e hbz
            go_wp2
            refine bodyPost_ret (v := .tuple #[.string ByteArray.empty, .bool false]) (by simp [results, Try.results26, go_sem]; try rfl) rfl ?_
            exact ⟨rfl, Below.refl _ _⟩
  · have i1 : ((s.size : Int) != 16) = true := by rw [bne_iff_ne]; omega
    rw [unpadF_not h] at hF
    simp only [Prod.mk.injEq] at hF
    obtain ⟨rfl, rfl⟩ := hF
    go_enter Try.func26, Try.ntmps26
    go_wp2
    refine bodyPost_ret (v := .tuple #[.string ByteArray.empty, .bool false]) (by simp [results, Try.results26, go_sem]; try rfl) rfl ?_
    exact ⟨rfl, Below.refl _ _⟩

end Go.Proofs.Ytnfoflijapbkdaa
