/- Chapter 7, the program's helpers over rows of bytes. -/
import Derived.Test.YtnfoflijapbkdaaR7
import Derived.Lib.UnsafeStr
import Derived.Lib.BufferWrite
namespace Go.Proofs.Ytnfoflijapbkdaa
set_option linter.unusedVariables false
set_option maxRecDepth 1000000
set_option linter.unusedSimpArgs false
open Go.RowKit

theorem xor_step {l m : Bs} {k : Nat} (z : Bs) (hk : k < l.length) (hlm : l.length = m.length) (hz : z.length = l.length) (ht : z = (xorB l m).take k ++ l.drop k) : z.set k (z.getD k 0 ^^^ m.getD k 0) = (xorB l m).take (k + 1) ++ l.drop (k + 1) := by
  have hx := xorB_length hlm
  have e1 : ((xorB l m).take k).length = k := by rw [List.length_take]; omega
  have hg : z.getD k 0 = l.getD k 0 := by
    rw [ht, List.getD, List.getElem?_append_right (by omega), e1, List.getElem?_drop, List.getD]; congr 2; omega
  rw [hg, ← xorB_get hlm hk, ht]
  rw [List.set_append_right _ _ (by omega), e1, Nat.sub_self, List.drop_eq_getElem_cons hk, List.set_cons_zero, List.take_succ_eq_append_getElem (show k < (xorB l m).length by omega), List.append_assoc]
  congr 1
  show _ = [(xorB l m)[k]] ++ l.drop (k + 1)
  rw [List.getD, List.getElem?_eq_getElem (show k < (xorB l m).length by omega)]
  rfl

set_option maxHeartbeats 1000000 in
theorem turnBy_c (g n c : Nat) (s : ByteArray) (l : Bs) (w : World) (hl : l.length = n) (hs : s.size = n) (hn : n ≤ 40) (hr : RowB w g l) :
    Calls Try.prog 67 #[.slice (some ⟨g, 0, none⟩) n c, .string s] w fun e w' => e = .returned (.tuple #[]) ∧ RowB w' g (xorB l (bl s)) ∧ w.grownBy w' (some g) := by
  have HL : Hid (l.length = n) := hl
  have HLM : Hid (l.length = (bl s).length) := by show _ = _; rw [bl_length]; omega
  have HR : Hid (RowB w g l) := hr
  have hs' : s.size = n := hs
  clear hl hr hs
  go_enter Try.func67, Try.ntmps67
  go_wp2
  go_loopw [7] (fun iv wr => ∃ (k : Nat), k ≤ n ∧ iv = .int .i64 k ∧ Hid (RowB wr g ((xorB l (bl s)).take k ++ l.drop k)) ∧ Hid (w.grownBy wr (some g))) (fun iv _ => n - (intOf iv).toNat)
  case atStart => exact ⟨0, Nat.zero_le _, rfl, by show RowB _ _ _; simpa using HR.out, World.grownBy.refl _ _⟩
  case round =>
    obtain ⟨k, hk, rfl, hR, hG⟩ := hrel
    by_cases hlt : k < n
    · obtain ⟨z, hz⟩ : ∃ z, z = (xorB l (bl s)).take k ++ l.drop k := ⟨_, rfl⟩
      have hzl : z.length = l.length := by rw [hz, List.length_append, List.length_take, List.length_drop, xorB_length HLM.out, HL.out]; omega
      have HS := xor_step (m := bl s) z (by rw [HL.out]; exact hlt) HLM.out hzl hz
      have hR' := hR.out
      rw [← hz] at hR'
      have g1 := hR'.1 k (by rw [hzl, HL.out]; exact hlt)
      have g2 := hR'.2 k (by rw [hzl, HL.out]; exact hlt)
      have hk2 : k < s.size := by omega
      have hb := byte_at s k hk2
      have hxr := u8_xor (z.getD k 0) ((bl s).getD k 0)
      have hset := hR'.set (k := k) (by rw [hzl, HL.out]; exact hlt) (z.getD k 0 ^^^ (bl s).getD k 0)
      rw [HS] at hset
      have HSET : Hid (RowB (wr.setCell ⟨g, k, none⟩ (.int .u8 ((z.getD k 0 ^^^ (bl s).getD k 0).toNat : Int))) g ((xorB l (bl s)).take (k + 1) ++ l.drop (k + 1))) := hset
      have HG2 : Hid (w.grownBy (wr.setCell ⟨g, k, none⟩ (.int .u8 ((z.getD k 0 ^^^ (bl s).getD k 0).toNat : Int))) (some g)) := grown_trans hG.out (grown_setCell _ _ _ _)
      unfold bN at g1 hb
      generalize z.getD k 0 ^^^ (bl s).getD k 0 = x at hxr HSET HG2
      generalize (z.getD k 0).toNat = a at g1 hxr
      generalize ((bl s).getD k 0).toNat = b at hb hxr
      have h0 : (0 : Int) ≤ (k : Int) := by omega
      have h1 : (k : Int) < (n : Int) := by omega
      have h3 : (k : Int) < (s.size : Int) := by omega
      clear hR' HS hz hzl hset hR hG hs'
      go_wp2
      go_region
      go_wp2
      go_roundw
      case rel => exact ⟨k + 1, by omega, by go_num, HSET.out.later (Below.refl _ _).drew, grown_trans HG2.out (grown_below (Below.refl _ _).drew)⟩
      case measure => simp [intOf]; omega
    · clear hs'
      go_wp2
      go_end0
      obtain rfl : k = n := by omega
      refine ⟨rfl, ?_, hG.out⟩
      have := hR.out
      rwa [List.take_of_length_le (by rw [xorB_length HLM.out, HL.out]; exact Nat.le_refl _), List.drop_of_length_le (by rw [HL.out]; exact Nat.le_refl _), List.append_nil] at this

theorem wsum_lt (l : Bs) (k : Nat) (h : k ≤ 40) : wsum l k ≤ 418200 := by have := wsum_le l k h; omega

set_option maxHeartbeats 1000000 in
theorem checkSum_c (g o n c : Nat) (m : Bs) (w : World) (hm : m.length = n) (hn : n ≤ 40) (hc : ∀ j, j < n → w.cell? ⟨g, o + j, none⟩ = some (.int .u8 (bN m j : Nat))) :
    Calls Try.prog 59 #[.slice (some ⟨g, o, none⟩) n c] w fun e w' => e = .returned (.int .i64 (chk m : Nat)) ∧ w' = w := by
  have HC : Hid (∀ j, j < n → w.cell? ⟨g, o + j, none⟩ = some (.int .u8 (bN m j : Nat))) := hc
  have HV : Hid (chk m = wsum m n % 251) := by show _ = _; unfold chk; rw [hm]
  generalize chk m = z at HV ⊢
  clear hc hm
  go_enter Try.func59, Try.ntmps59
  go_wp2
  go_loop [3, 8] (fun nv iv => ∃ (k S : Nat), k ≤ n ∧ iv = .int .i64 k ∧ nv = .int .i64 S ∧ S ≤ 418200 ∧ Hid (S = wsum m k)) (fun _ iv => n - (intOf iv).toNat)
  case atStart => exact ⟨0, 0, Nat.zero_le _, rfl, rfl, by omega, rfl⟩
  case round =>
    obtain ⟨k, S, hk, rfl, rfl, hS, HS⟩ := hrel
    by_cases hlt : k < n
    · have g1 := HC.out k hlt
      have hb := bN_lt m k
      have HS2 : Hid (S + bN m k * (k + 1) = wsum m (k + 1)) := by show _ = _; rw [wsum, ← HS.out]
      have hS2 : S + bN m k * (k + 1) ≤ 418200 := by rw [HS2.out]; exact wsum_lt m (k + 1) (by omega)
      have HP : Hid (∃ p : Nat, bN m k * (k + 1) = p ∧ p ≤ 418200) := ⟨_, rfl, by omega⟩
      generalize bN m k = a at g1 hb HS2 hS2 HP
      have h0 : (0 : Int) ≤ (k : Int) := by omega
      have h1 : (k : Int) < (n : Int) := by omega
      obtain ⟨p, hp, hp2⟩ := HP.out
      have hpi : (a : Int) * ((k : Int) + 1) = (p : Int) := by rw [← hp]; simp
      have HP2 : Hid (a * (k + 1) = p) := hp
      clear HP hp
      rw [HP2.out] at hS2
      go_wp2
      go_round
      case rel => exact ⟨k + 1, S + p, by omega, by go_num, by go_num, by omega, by show _ = _; rw [← HP2.out]; exact HS2.out⟩
      case measure => simp [intOf]; omega
    · go_wp2
      go_ret
      obtain rfl : k = n := by omega
      refine ⟨ret_int ?_, rfl⟩
      rw [HV.out, ← HS.out]
      first | rfl | omega | (simp; omega)

theorem RowB.cellsAt {w : World} {g o n : Nat} {l m : Bs} (h : RowB w g l) (hm : (l.drop o).take n = m) (hn : o + n ≤ l.length) : ∀ j, j < n → w.cell? ⟨g, o + j, none⟩ = some (.int .u8 (bN m j : Nat)) := fun j hj => by
  rw [h.1 (o + j) (by omega)]
  unfold bN
  rw [← hm]
  congr 4
  rw [List.getD, List.getD, List.getElem?_take, if_pos hj, List.getElem?_drop]

theorem placeOfBody_c (g o n c : Nat) (w : World) (hn : 16 ≤ n) (hc : n ≤ c) :
    Calls Try.prog 58 #[.slice (some ⟨g, o, none⟩) n c] w fun e w' => e = .returned (.slice (some ⟨g, o, none⟩) 16 16) ∧ w' = w := by
  have h1 : (16 : Int) ≤ (c : Int) := by omega
  go_enter Try.func58, Try.ntmps58
  go_wp2
  go_ret
  exact ⟨rfl, rfl⟩

theorem isHop_c (x : Int) (w : World) : Calls Try.prog 47 #[.int .i64 x] w fun e w' => e = .returned (.bool (decide (1 ≤ x ∧ x ≤ 250))) ∧ w' = w := by
  by_cases h1 : 1 ≤ x
  · by_cases h2 : x ≤ 250
    · rw [decide_eq_true ⟨h1, h2⟩]
      go_enter Try.func47, Try.ntmps47
      go_wp2
      go_ret
      exact ⟨rfl, rfl⟩
    · rw [decide_eq_false (fun h => h2 h.2)]
      go_enter Try.func47, Try.ntmps47
      go_wp2
      go_ret
      exact ⟨rfl, rfl⟩
  · rw [decide_eq_false (fun h => h1 h.1)]
    go_enter Try.func47, Try.ntmps47
    go_wp2
    go_ret
    exact ⟨rfl, rfl⟩

end Go.Proofs.Ytnfoflijapbkdaa
