/- BitsOf: the contracts, the program's and the specification's. -/
import Derived.Test.YtjdfpjeeipbghaaB3B
namespace Go.Proofs.Ytjdfpjeeipbghaa
set_option linter.unusedVariables false
set_option linter.unusedSimpArgs false
open Go.RowKit

/-- Bit d of a byte, as the program reckons it. -/
def bitF (b : UInt8) (d : Nat) : Bool := bits BinOp.and IntKind.u8 ((b.toNat : Int) / 2 ^ d) 1 == 1
/-- The bits of a text, each byte's highest first. -/
def bitsL (s : ByteArray) : List Bool := (List.range (8 * s.size)).map (fun j => bitF (s.get! (j / 8)) (7 - j % 8))
def bitsF (s : ByteArray) : List Bool × Bool := if s.size ≤ 5 then (bitsL s, true) else ([], false)

theorem bitsL_length (s : ByteArray) : (bitsL s).length = 8 * s.size := by simp [bitsL]

theorem bitsL_take {s : ByteArray} {k d : Nat} (hk : k < s.size) (h0 : 0 < d) (h8 : d ≤ 8) : (bitsL s).take (8 * k + (8 - (d - 1))) = (bitsL s).take (8 * k + (8 - d)) ++ [bitF (s[k]'hk) (d - 1)] := by
  rw [show 8 * k + (8 - (d - 1)) = (8 * k + (8 - d)) + 1 by omega, List.take_succ_eq_append_getElem (by rw [bitsL_length]; omega)]
  congr 2
  simp only [bitsL, List.getElem_map, List.getElem_range]
  rw [show (8 * k + (8 - d)) / 8 = k by omega, show 7 - (8 * k + (8 - d)) % 8 = d - 1 by omega]
  congr 1
  simp [ByteArray.get!, ByteArray.get, hk, getElem!_def]
  first | rfl | (rw [Array.getElem?_eq_getElem (by exact hk)]; rfl) | skip

theorem bitsF_short {s : ByteArray} {zs : List Bool} {fb : Bool} (h : bitsF s = (zs, fb)) : zs.length ≤ 40 := by
  unfold bitsF at h
  split at h
  · simp only [Prod.mk.injEq] at h
    rw [← h.1, bitsL_length]; omega
  · simp only [Prod.mk.injEq] at h
    rw [← h.1]; simp

set_option maxHeartbeats 1000000 in
theorem implBits_at (s : ByteArray) (w : World) (hs : s.size ≤ 5) :
    Calls Try.prog 31 #[.string s] w fun e w' => ∃ a' c', e = .returned (.tuple #[.slice a' (8 * s.size) c', .bool true]) ∧ OwnB w' w.heap.size (.slice a' (8 * s.size) c') (bitsL s) ∧ Below w.heap.size w w' := by
  obtain ⟨i0, hi, hz0, hz1, hz2⟩ := info_parts Try.infoBool
  have hs5 : (s.size : Int) ≤ 5 := by omega
  go_enter Try.func31, Try.ntmps31
  go_wp2
  go_loopw [4, 12] (fun v i wr => ∃ k : Nat, k ≤ s.size ∧ i = .int .i64 k ∧ Hid (OwnB wr w.heap.size v ((bitsL s).take (8 * k))) ∧ Hid (Below w.heap.size w wr)) (fun _ i _ => s.size - (intOf i).toNat)
  case atStart => exact ⟨0, Nat.zero_le _, rfl, World.ownsRow_nil _ _ _ _, Below.refl _ _⟩
  case round =>
    obtain ⟨k, hk, rfl, hO, hB⟩ := hrel
    by_cases hlt : k < s.size
    · have hk0 : (0 : Int) ≤ (k : Int) := by omega
      have hk1 : (k : Int) < (s.size : Int) := by omega
      go_wp2
      try simp only [hlt, decide_true]
      obtain ⟨wo, rfl⟩ : ∃ wo : World, wo = wr := ⟨_, rfl⟩
      go_loopw [4, 6] (fun v i wr => ∃ (d : Nat) (z : Int), d ≤ 8 ∧ i = .int .i64 z ∧ z + 1 = d ∧ Hid (OwnB wr w.heap.size v ((bitsL s).take (8 * k + (8 - d)))) ∧ Hid (Below w.heap.size w wr)) (fun _ i _ => (intOf i + 1).toNat)
      case atStart => exact ⟨8, 7, Nat.le_refl _, rfl, by omega, by simpa using hO, hB⟩
      case round =>
        clear hO hB
        obtain ⟨d, z, hd, rfl, hzd, hOi, hBi⟩ := hrel
        by_cases hd0 : 0 < d
        · have hd1 : (0 : Int) ≤ z := by omega
          have hd2 : z < 8 := by omega
          have HZ : Hid (z + 1 = (d : Int)) := hzd
          have hzt : z.toNat = d - 1 := by omega
          have hob : ∀ k', u4.ownBlock = some k' → w.heap.size ≤ k' := own_block_geB hOi.out
          have hlen : ((bitsL s).take (8 * k + (8 - d))).length = 8 * k + (8 - d) := by rw [List.length_take, bitsL_length]; omega
          have hown : wr.ownsRow w.heap.size 4 1 u4 (8 * k + (8 - d)) (cellsB ((bitsL s).take (8 * k + (8 - d)))) := by have h := hOi.out; unfold OwnB at h; rw [hlen] at h; exact h
          have HT : Hid ((bitsL s).take (8 * k + (8 - (d - 1))) = (bitsL s).take (8 * k + (8 - d)) ++ [bitF (s[k]'hlt) z.toNat]) := by rw [hzt]; exact bitsL_take hlt hd0 hd
          have HL : Hid (((bitsL s).take (8 * k + (8 - d))).length = 8 * k + (8 - d)) := hlen
          generalize (bitsL s).take (8 * k + (8 - d)) = out at *
          obtain ⟨q, hq⟩ : ∃ q, q = 8 * k + (8 - d) := ⟨_, rfl⟩
          have hq5 : q ≤ 40 := by omega
          rw [← hq] at hown HL
          clear hlen hq hzd hzt
          go_wp2_with (at_builtin; refine wpList_append_own _ rfl _ _ 23 rfl w.heap.size 4 i0 (.bool false) 1 1 Try.underlying23 hi hz0 hz1 hz2 rfl (by decide) _ _ _ rfl (hown.alloc _) ⟨wr.heap.size, 0, none⟩ 1 1 [.bool (bitF (s[k]'hlt) z.toNat)] rfl rfl (cell_new1 _ _ _) (bools_oneCell [bitF (s[k]'hlt) z.toNat]) (by unfold maxLen; omega) (by omega) (by have := hBi.out.size; simp; omega) ?_; intro v' w2 hown' hgrow _; have HO' : Hid (OwnB w2 w.heap.size v' (out ++ [bitF (s[k]'hlt) z.toNat])) := own_pushB (w := wr) (v := u4) (by simpa [HL.out] using hown'); have HB' : Hid (Below w.heap.size w w2) := (hBi.out.alloc hBi.out.size _).grown hgrow (by have := hBi.out.size; simp; omega) (fun k' e => hob k' e); clear hown' hgrow)
          go_roundw
          case rel => exact ⟨d - 1, z - 1, by omega, rfl, by have := HZ.out; omega, by show OwnB _ _ _ _; rw [HT.out]; exact HO'.out, HB'⟩
          case measure => simp [intOf]; omega
        · have hz0' : z < 0 := by omega
          obtain rfl : d = 0 := by omega
          clear hzd
          go_wp2
          go_roundw
          case rel => exact ⟨k + 1, by omega, by go_num, by have h := hOi.out; show OwnB _ _ _ _; rw [show 8 * (k + 1) = 8 * k + (8 - 0) by omega]; exact h, hBi⟩
          case measure => simp [intOf]; omega
    · have he : (bitsL s).take (8 * k) = bitsL s := List.take_of_length_le (by rw [bitsL_length]; omega)
      have hol : (bitsL s).length = 8 * s.size := by rw [bitsL_length]
      rw [he] at hO
      obtain ⟨a', c', hv⟩ := hO.out.shape
      rw [hol] at hv
      subst hv
      clear he hol
      go_wp2
      refine bodyPost_ret (v := .tuple #[.slice a' (8 * s.size) c', .bool true]) (by simp [results, Try.results31, go_sem]) rfl ⟨a', c', rfl, hO.out, hB.out⟩

theorem implBits_c (s : ByteArray) (w : World) (hm : s.size ≤ 17592186044416) (zs : List Bool) (fb : Bool) (p : Nat) (hF : bitsF s = (zs, fb)) (hp : zs.length = p) :
    Calls Try.prog 31 #[.string s] w fun e w' => ∃ a' c', e = .returned (.tuple #[.slice a' p c', .bool fb]) ∧ OwnB w' w.heap.size (.slice a' p c') zs ∧ Below w.heap.size w w' := by
  unfold bitsF at hF
  by_cases h : s.size ≤ 5
  · rw [if_pos h] at hF
    simp only [Prod.mk.injEq] at hF
    obtain ⟨rfl, rfl⟩ := hF
    rw [bitsL_length] at hp
    subst hp
    exact implBits_at s w h
  · rw [if_neg h] at hF
    simp only [Prod.mk.injEq] at hF
    obtain ⟨rfl, rfl⟩ := hF
    simp at hp
    subst hp
    have h5 : (5 : Int) < (s.size : Int) := by omega
    go_enter Try.func31, Try.ntmps31
    go_wp2
    refine bodyPost_ret (v := .tuple #[.slice none 0 0, .bool false]) (by simp [results, Try.results31, go_sem]) rfl ⟨none, 0, rfl, World.ownsRow_nil _ _ _ _, Below.refl _ _⟩

set_option maxHeartbeats 1000000 in
theorem specBits_at (s : ByteArray) (w : World) (hs : s.size ≤ 5) :
    Calls Try.prog 32 #[.string s] w fun e w' => ∃ a' c', e = .returned (.tuple #[.slice a' (8 * s.size) c', .bool true]) ∧ OwnB w' w.heap.size (.slice a' (8 * s.size) c') (bitsL s) ∧ Below w.heap.size w w' := by
  obtain ⟨i0, hi, hz0, hz1, hz2⟩ := info_parts Try.infoBool
  have hs5 : (s.size : Int) ≤ 5 := by omega
  go_enter Try.func32, Try.ntmps32
  go_wp2
  go_loopw [4, 5] (fun v i wr => ∃ k : Nat, k ≤ s.size ∧ i = .int .i64 k ∧ Hid (OwnB wr w.heap.size v ((bitsL s).take (8 * k))) ∧ Hid (Below w.heap.size w wr)) (fun _ i _ => s.size - (intOf i).toNat)
  case atStart => exact ⟨0, Nat.zero_le _, rfl, World.ownsRow_nil _ _ _ _, Below.refl _ _⟩
  case round =>
    obtain ⟨k, hk, rfl, hO, hB⟩ := hrel
    by_cases hlt : k < s.size
    · have hk0 : (0 : Int) ≤ (k : Int) := by omega
      have hk1 : (k : Int) < (s.size : Int) := by omega
      go_wp2
      try simp only [hlt, decide_true]
      obtain ⟨wo, rfl⟩ : ∃ wo : World, wo = wr := ⟨_, rfl⟩
      go_loopw [4, 6] (fun v i wr => ∃ (d : Nat) (z : Int), d ≤ 8 ∧ i = .int .i64 z ∧ z + 1 = d ∧ Hid (OwnB wr w.heap.size v ((bitsL s).take (8 * k + (8 - d)))) ∧ Hid (Below w.heap.size w wr)) (fun _ i _ => (intOf i + 1).toNat)
      case atStart => exact ⟨8, 7, Nat.le_refl _, rfl, by omega, by simpa using hO, hB⟩
      case round =>
        clear hO hB
        obtain ⟨d, z, hd, rfl, hzd, hOi, hBi⟩ := hrel
        by_cases hd0 : 0 < d
        · have hd1 : (0 : Int) ≤ z := by omega
          have hd2 : z < 8 := by omega
          have HZ : Hid (z + 1 = (d : Int)) := hzd
          have hzt : z.toNat = d - 1 := by omega
          have hob : ∀ k', u4.ownBlock = some k' → w.heap.size ≤ k' := own_block_geB hOi.out
          have hlen : ((bitsL s).take (8 * k + (8 - d))).length = 8 * k + (8 - d) := by rw [List.length_take, bitsL_length]; omega
          have hown : wr.ownsRow w.heap.size 4 1 u4 (8 * k + (8 - d)) (cellsB ((bitsL s).take (8 * k + (8 - d)))) := by have h := hOi.out; unfold OwnB at h; rw [hlen] at h; exact h
          have HT : Hid ((bitsL s).take (8 * k + (8 - (d - 1))) = (bitsL s).take (8 * k + (8 - d)) ++ [bitF (s[k]'hlt) z.toNat]) := by rw [hzt]; exact bitsL_take hlt hd0 hd
          have HL : Hid (((bitsL s).take (8 * k + (8 - d))).length = 8 * k + (8 - d)) := hlen
          generalize (bitsL s).take (8 * k + (8 - d)) = out at *
          obtain ⟨q, hq⟩ : ∃ q, q = 8 * k + (8 - d) := ⟨_, rfl⟩
          have hq5 : q ≤ 40 := by omega
          rw [← hq] at hown HL
          clear hlen hq hzd hzt
          go_wp2_with (at_builtin; refine wpList_append_own _ rfl _ _ 23 rfl w.heap.size 4 i0 (.bool false) 1 1 Try.underlying23 hi hz0 hz1 hz2 rfl (by decide) _ _ _ rfl (hown.alloc _) ⟨wr.heap.size, 0, none⟩ 1 1 [.bool (bitF (s[k]'hlt) z.toNat)] rfl rfl (cell_new1 _ _ _) (bools_oneCell [bitF (s[k]'hlt) z.toNat]) (by unfold maxLen; omega) (by omega) (by have := hBi.out.size; simp; omega) ?_; intro v' w2 hown' hgrow _; have HO' : Hid (OwnB w2 w.heap.size v' (out ++ [bitF (s[k]'hlt) z.toNat])) := own_pushB (w := wr) (v := u4) (by simpa [HL.out] using hown'); have HB' : Hid (Below w.heap.size w w2) := (hBi.out.alloc hBi.out.size _).grown hgrow (by have := hBi.out.size; simp; omega) (fun k' e => hob k' e); clear hown' hgrow)
          go_roundw
          case rel => exact ⟨d - 1, z - 1, by omega, rfl, by have := HZ.out; omega, by show OwnB _ _ _ _; rw [HT.out]; exact HO'.out, HB'⟩
          case measure => simp [intOf]; omega
        · have hz0' : z < 0 := by omega
          obtain rfl : d = 0 := by omega
          clear hzd
          go_wp2
          go_roundw
          case rel => exact ⟨k + 1, by omega, by go_num, by have h := hOi.out; show OwnB _ _ _ _; rw [show 8 * (k + 1) = 8 * k + (8 - 0) by omega]; exact h, hBi⟩
          case measure => simp [intOf]; omega
    · have he : (bitsL s).take (8 * k) = bitsL s := List.take_of_length_le (by rw [bitsL_length]; omega)
      have hol : (bitsL s).length = 8 * s.size := by rw [bitsL_length]
      rw [he] at hO
      obtain ⟨a', c', hv⟩ := hO.out.shape
      rw [hol] at hv
      subst hv
      clear he hol
      go_wp2
      refine bodyPost_ret (v := .tuple #[.slice a' (8 * s.size) c', .bool true]) (by simp [results, Try.results32, go_sem]) rfl ⟨a', c', rfl, hO.out, hB.out⟩

theorem specBits_c (s : ByteArray) (w : World) (hm : s.size ≤ 17592186044416) (zs : List Bool) (fb : Bool) (p : Nat) (hF : bitsF s = (zs, fb)) (hp : zs.length = p) :
    Calls Try.prog 32 #[.string s] w fun e w' => ∃ a' c', e = .returned (.tuple #[.slice a' p c', .bool fb]) ∧ OwnB w' w.heap.size (.slice a' p c') zs ∧ Below w.heap.size w w' := by
  unfold bitsF at hF
  by_cases h : s.size ≤ 5
  · rw [if_pos h] at hF
    simp only [Prod.mk.injEq] at hF
    obtain ⟨rfl, rfl⟩ := hF
    rw [bitsL_length] at hp
    subst hp
    exact specBits_at s w h
  · rw [if_neg h] at hF
    simp only [Prod.mk.injEq] at hF
    obtain ⟨rfl, rfl⟩ := hF
    simp at hp
    subst hp
    have h5 : (5 : Int) < (s.size : Int) := by omega
    go_enter Try.func32, Try.ntmps32
    go_wp2
    refine bodyPost_ret (v := .tuple #[.slice none 0 0, .bool false]) (by simp [results, Try.results32, go_sem]) rfl ⟨none, 0, rfl, World.ownsRow_nil _ _ _ _, Below.refl _ _⟩

end Go.Proofs.Ytjdfpjeeipbghaa
