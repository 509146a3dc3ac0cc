/- Chapter 16: a text of bits told as a number; a window of numbers that were seen. -/
import Derived.Test.YtjpegbodhpnflaaDoorWR16
namespace Go.Proofs.YtjpegbodhpnflaaDoor
set_option linter.unusedVariables false
set_option maxRecDepth 1000000
set_option linter.unusedSimpArgs false
open Go.RowKit

/-- The number that the first p signs tell. -/
def VL (L : Bs) : Nat → Nat
  | 0 => 0
  | p + 1 => 2 * VL L p + (if L.getD p 0 = 49 then 1 else 0)
theorem VL_lt (L : Bs) : ∀ p, VL L p < 2 ^ p
  | 0 => by simp [VL]
  | p + 1 => by
    have := VL_lt L p
    rw [VL, Nat.pow_succ]
    split <;> omega
/-- The signs of the j numbers up to t: which of them are in s. -/
def sgL : Nat → Int → List Int → Bs
  | 0, _, _ => []
  | j + 1, t, s => sgL j (t - 1) s ++ [if decide (t ∈ s) = true then 49 else 48]
theorem sgL_len : ∀ (j : Nat) (t : Int) (s : List Int), (sgL j t s).length = j
  | 0, _, _ => rfl
  | j + 1, t, s => by rw [sgL, List.length_append, sgL_len j]; rfl
theorem sgL_two : ∀ (j : Nat) (t : Int) (s : List Int), ∀ x ∈ sgL j t s, x = 48 ∨ x = 49
  | 0, _, _, x, h => by cases h
  | j + 1, t, s, x, h => by
    rw [sgL] at h
    rcases List.mem_append.1 h with h | h
    · exact sgL_two j _ _ x h
    · simp only [List.mem_singleton] at h
      rw [h]; split <;> simp
theorem VL_app (L M : Bs) : ∀ p, p ≤ L.length → VL (L ++ M) p = VL L p
  | 0, _ => rfl
  | p + 1, h => by
    rw [VL, VL, VL_app L M p (by omega)]
    have : (L ++ M).getD p 0 = L.getD p 0 := by rw [List.getD, List.getD, List.getElem?_append_left (by omega)]
    rw [this]
theorem VL_sg : ∀ (j : Nat) (t : Int) (s : List Int), VL (sgL j t s) j = WB j t s
  | 0, t, s => rfl
  | j + 1, t, s => by
    rw [sgL, VL, WB, VL_app _ _ _ (by rw [sgL_len]; exact Nat.le_refl _), VL_sg j]
    congr 1
    have : (sgL j (t - 1) s ++ [if decide (t ∈ s) = true then (49 : UInt8) else 48]).getD j 0 = if decide (t ∈ s) = true then 49 else 48 := by
      rw [List.getD, List.getElem?_append_right (by rw [sgL_len]; exact Nat.le_refl _), sgL_len, Nat.sub_self]; rfl
    rw [this]
    by_cases h : t ∈ s
    · simp [h]
    · simp [h]

set_option maxHeartbeats 1000000 in
theorem bitsOf_c (L : Bs) (w : World) (hl : L.length ≤ 16) (h2 : ∀ x ∈ L, x = 48 ∨ x = 49) :
    Calls Tryd.prog 65 #[.string (tx L)] w fun e w' => e = .returned (.int .i64 (VL L L.length : Nat)) ∧ Below w.heap.size w w' := by
  have hs0 : (tx L).size = L.length := tx_size _
  have HTwo : Hid (∀ p, p < L.length → L.getD p 0 = 48 ∨ L.getD p 0 = 49) := fun p hp => h2 _ (mem_getD 0 hp)
  obtain ⟨n, hn⟩ : ∃ n, L.length = n := ⟨_, rfl⟩
  obtain ⟨V, hV⟩ : ∃ V, VL L L.length = V := ⟨_, rfl⟩
  have HV : Hid (VL L n = V) := by rw [← hn]; exact hV
  rw [hV]
  have HN : Hid (L.length = n) := hn
  rw [hn] at hs0 hl
  clear h2 hn hV
  go_enter Tryd.func65, Tryd.ntmps65
  go_wp2
  go_loopw [3, 5] (fun sv rv wr => ∃ (p : Nat), p ≤ n ∧ sv = .int .i64 (VL L p : Nat) ∧ wr.heap[w.heap.size]? = some (.stringIter (tx L) p) ∧ w.heap.size < wr.heap.size ∧ Hid (Below w.heap.size w wr)) (fun _ _ wr => n - wr.iterPos w.heap.size)
  case atStart =>
    refine ⟨0, Nat.zero_le _, rfl, ?_, by show _ < (w.heap.push _).size; rw [Array.size_push]; omega, balloc w _⟩
    exact World.iter_heap w (tx L) 0
  case round =>
    obtain ⟨p, hp, rfl, hit, hsz, HB⟩ := hrel
    by_cases hpn : p < n
    · have hlt : p < (tx L).size := by rw [hs0]; exact hpn
      have hbyte : ((tx L)[p]'hlt).toNat = bN L p := by rw [byte_at (tx L) p hlt, bl_tx]
      have hasc : ((tx L)[p]'hlt).toNat < 128 := by
        rw [hbyte]; unfold bN
        rcases HTwo.out p (by rw [HN.out]; exact hpn) with e | e <;> rw [e] <;> decide
      have hnx : ∀ ty, (Instr.next (.pointer (some ⟨w.heap.size, 0, none⟩)) true ty).run Tryd.prog wr = .ok (.tuple #[.bool true, .int .i64 (p : Int), .int .i32 ((bN L p : Nat) : Int)]) (wr.iterAt w.heap.size (tx L) (p + 1)) := fun ty => by
        rw [Lib.run_next_ascii_at wr w.heap.size (tx L) p ty hit hlt hasc, hbyte]
      have hit2 := Lib.iterAt_heap wr w.heap.size (tx L) p (p + 1) hit
      have HB2 : Hid (Below w.heap.size w (wr.iterAt w.heap.size (tx L) (p + 1))) := Lib.below_iterAt HB.out (Nat.le_refl _) _ _
      have hsz2 : w.heap.size < (wr.iterAt w.heap.size (tx L) (p + 1)).heap.size := by rw [Lib.iterAt_size]; exact hsz
      generalize wr.iterAt w.heap.size (tx L) (p + 1) = W2 at hnx hit2 HB2 hsz2
      have hlt16 : VL L p < 65536 := Nat.lt_of_lt_of_le (VL_lt L p) (show 2 ^ p ≤ 2 ^ 16 from Nat.pow_le_pow_right (by omega) (by omega))
      rcases HTwo.out p (by rw [HN.out]; exact hpn) with e | e
      · have hv : VL L (p + 1) = 2 * VL L p := by rw [VL, if_neg (by rw [e]; decide), Nat.add_zero]
        have hb : bN L p = 48 := by unfold bN; rw [e]; rfl
        rw [hb] at hnx
        generalize VL L p = x at hv hlt16
        clear hasc hbyte e hb
        go_wp2
        go_roundw
        case rel => exact ⟨p + 1, by omega, by rw [hv]; go_num, hit2, hsz2, HB2⟩
        case measure =>
          simp only [World.iterPos, hit, hit2]
          omega
      · have hv : VL L (p + 1) = 2 * VL L p + 1 := by rw [VL, if_pos e]
        have hb : bN L p = 49 := by unfold bN; rw [e]; rfl
        rw [hb] at hnx
        generalize VL L p = x at hv hlt16
        clear hasc hbyte e hb
        go_wp2
        go_roundw
        case rel => exact ⟨p + 1, by omega, by rw [hv]; go_num, hit2, hsz2, HB2⟩
        case measure =>
          simp only [World.iterPos, hit, hit2]
          omega
    · obtain rfl : p = n := by omega
      have hnx : ∀ ty, (Instr.next (.pointer (some ⟨w.heap.size, 0, none⟩)) true ty).run Tryd.prog wr = .ok (.tuple #[.bool false]) wr := fun ty => Lib.run_next_end_at wr w.heap.size (tx L) p ty hit (by rw [hs0]; omega)
      have hE : VL L p = V := HV.out
      rw [hE]
      clear hit HV hE
      go_wp2
      go_ret
      exact ⟨rfl, HB.out⟩

end Go.Proofs.YtjpegbodhpnflaaDoor
