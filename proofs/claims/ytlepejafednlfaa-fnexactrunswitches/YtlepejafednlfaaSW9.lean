/- Chapter 9: plain facts on switches that are run. -/
import Derived.Test.YtlepejafednlfaaP9
import Derived.Test.YtlepejafednlfaaB9B
namespace Go.Proofs.Ytlepejafednlfaa
set_option linter.unusedVariables false
set_option maxRecDepth 1000000
set_option linter.unusedSimpArgs false
open Go.RowKit

def nilS : ByteArray := ByteArray.empty
def crA (c : Bool) (a b : ByteArray) : ByteArray := if c = true then b else a
def crB (c : Bool) (a b : ByteArray) : ByteArray := if c = true then a else b
/-- How many switches 2 to the d ports have. -/
def cntD : Nat → Nat
  | 0 => 0
  | 1 => 1
  | d + 2 => 2 ^ (d + 2) + 2 * cntD (d + 1)
def upL (H : Nat) (s : List Bool) (l : List ByteArray) : List ByteArray := (List.range H).map fun i => crA (s.getD i false) (l.getD (2 * i) nilS) (l.getD (2 * i + 1) nilS)
def lowL (H : Nat) (s : List Bool) (l : List ByteArray) : List ByteArray := (List.range H).map fun i => crB (s.getD i false) (l.getD (2 * i) nilS) (l.getD (2 * i + 1) nilS)
def outL (H : Nat) (x : List Bool) (u v : List ByteArray) : List ByteArray := (List.range H).flatMap fun i => [crA (x.getD i false) (u.getD i nilS) (v.getD i nilS), crB (x.getD i false) (u.getD i nilS) (v.getD i nilS)]
def runL : Nat → List Bool → List ByteArray → List ByteArray
  | 0, _, l => l
  | 1, s, l => [crA (s.getD 0 false) (l.getD 0 nilS) (l.getD 1 nilS), crB (s.getD 0 false) (l.getD 0 nilS) (l.getD 1 nilS)]
  | d + 2, s, l => outL (2 ^ (d + 1)) (s.drop (2 ^ (d + 1) + 2 * cntD (d + 1))) (runL (d + 1) ((s.drop (2 ^ (d + 1))).take (cntD (d + 1))) (upL (2 ^ (d + 1)) s l)) (runL (d + 1) ((s.drop (2 ^ (d + 1) + cntD (d + 1))).take (cntD (d + 1))) (lowL (2 ^ (d + 1)) s l))
theorem upL_length (H : Nat) (s : List Bool) (l : List ByteArray) : (upL H s l).length = H := by simp [upL]
theorem lowL_length (H : Nat) (s : List Bool) (l : List ByteArray) : (lowL H s l).length = H := by simp [lowL]
theorem outL_length (H : Nat) (x : List Bool) (u v : List ByteArray) : (outL H x u v).length = 2 * H := by
  unfold outL
  induction H with
  | zero => rfl
  | succ n ih => rw [List.range_succ, List.flatMap_append, List.length_append, ih]; simp; omega
theorem runL_length : ∀ (d : Nat) (s : List Bool) (l : List ByteArray), l.length = 2 ^ d → (runL d s l).length = 2 ^ d
  | 0, _, _, h => h
  | 1, _, _, _ => rfl
  | d + 2, s, l, _ => by rw [runL, outL_length, Nat.pow_succ 2 (d + 1)]; omega
theorem upL_succ (H : Nat) (s : List Bool) (l : List ByteArray) : upL (H + 1) s l = upL H s l ++ [crA (s.getD H false) (l.getD (2 * H) nilS) (l.getD (2 * H + 1) nilS)] := by simp [upL, List.range_succ]
theorem lowL_succ (H : Nat) (s : List Bool) (l : List ByteArray) : lowL (H + 1) s l = lowL H s l ++ [crB (s.getD H false) (l.getD (2 * H) nilS) (l.getD (2 * H + 1) nilS)] := by simp [lowL, List.range_succ]
theorem outL_succ (H : Nat) (x : List Bool) (u v : List ByteArray) : outL (H + 1) x u v = outL H x u v ++ [crA (x.getD H false) (u.getD H nilS) (v.getD H nilS), crB (x.getD H false) (u.getD H nilS) (v.getD H nilS)] := by
  unfold outL
  rw [List.range_succ, List.flatMap_append]; simp

/-- What is read of settings from o on. -/
def RdBits (w : World) (b o n : Nat) (s : List Bool) : Prop := s.length = n ∧ ∀ j, j < n → w.cell? ⟨b, o + j, none⟩ = some (.bool (s.getD j false))
theorem RdBits.later {w w' : World} {b o n : Nat} {s : List Bool} (h : RdBits w b o n s) (hb : Below w.heap.size w w') : RdBits w' b o n s := ⟨h.1, fun j hj => by
  rw [hb.cell (p := ⟨b, o + j, none⟩) (World.block_lt_of_cell? w _ (h.2 j hj))]; exact h.2 j hj⟩
theorem RdBits.part {w : World} {b o n : Nat} {s : List Bool} (h : RdBits w b o n s) (p k : Nat) (hp : p + k ≤ n) : RdBits w b (o + p) k ((s.drop p).take k) := by
  refine ⟨by rw [List.length_take, List.length_drop, h.1]; omega, fun j hj => ?_⟩
  rw [Nat.add_assoc, h.2 (p + j) (by omega)]
  simp [List.getD, List.getElem?_take, hj, List.getElem?_drop]
theorem RdBits.tail {w : World} {b o n : Nat} {s : List Bool} (h : RdBits w b o n s) (p : Nat) (hp : p ≤ n) : RdBits w b (o + p) (n - p) (s.drop p) := by
  refine ⟨by rw [List.length_drop, h.1], fun j hj => ?_⟩
  rw [Nat.add_assoc, h.2 (p + j) (by omega)]
  simp [List.getD, List.getElem?_drop]
theorem RdB.bits {w : World} {ao : Option Addr} {s : List Bool} {n : Nat} (h : RdB w ao s) (hs : s.length = n) (hn : 0 < n) : ∃ b o, ao = some ⟨b, o, none⟩ ∧ RdBits w b o n s := by
  rcases h with rfl | ⟨b, o, rfl, hc⟩
  · simp at hs; omega
  · exact ⟨b, o, rfl, hs, fun j hj => hc j (by omega)⟩

/-- The numbers of half, and of its switches. -/
def HN (H N : Nat) : Prop := (H = 2 ∧ N = 1) ∨ (H = 4 ∧ N = 6)

def runF (m : Int) (s : List Bool) (l : List ByteArray) : List ByteArray × Bool :=
  if portsB m = true ∧ (s.length : Int) = cntI m ∧ (l.length : Int) = m then (runL (if m = 8 then 3 else if m = 4 then 2 else if m = 2 then 1 else 0) s l, true) else ([], false)
theorem runF_short {m : Int} {s : List Bool} {l zs : List ByteArray} {fb : Bool} (h : runF m s l = (zs, fb)) : zs.length ≤ 9 := by
  unfold runF at h
  split at h
  · rename_i hc
    simp only [Prod.mk.injEq] at h
    rw [← h.1]
    have hm : m = 1 ∨ m = 2 ∨ m = 4 ∨ m = 8 := by simpa [portsB] using hc.1
    have hl := hc.2.2
    rcases hm with rfl | rfl | rfl | rfl
    · rw [show (if (1 : Int) = 8 then 3 else if (1 : Int) = 4 then 2 else if (1 : Int) = 2 then 1 else 0) = 0 by decide, runL_length 0 s l (by simp; omega)]; omega
    · rw [show (if (2 : Int) = 8 then 3 else if (2 : Int) = 4 then 2 else if (2 : Int) = 2 then 1 else 0) = 1 by decide, runL_length 1 s l (by simp; omega)]; omega
    · rw [show (if (4 : Int) = 8 then 3 else if (4 : Int) = 4 then 2 else if (4 : Int) = 2 then 1 else 0) = 2 by decide, runL_length 2 s l (by simp; omega)]; omega
    · rw [show (if (8 : Int) = 8 then 3 else if (8 : Int) = 4 then 2 else if (8 : Int) = 2 then 1 else 0) = 3 by decide, runL_length 3 s l (by simp; omega)]; omega
  · simp only [Prod.mk.injEq] at h
    rw [← h.1]; simp

theorem passed_c (c : Bool) (a b : ByteArray) (w : World) : Calls Try.prog 99 #[.bool c, .string a, .string b] w fun e w' => e = .returned (.tuple #[.string (crA c a b), .string (crB c a b)]) ∧ w' = w := by
  cases c with
  | true =>
    go_enter Try.func99, Try.ntmps99
    go_wp2
    refine bodyPost_ret (v := .tuple #[.string b, .string a]) (by simp [results, Try.results99, go_sem]; try rfl) rfl ?_
    exact ⟨rfl, rfl⟩
  | false =>
    go_enter Try.func99, Try.ntmps99
    go_wp2
    refine bodyPost_ret (v := .tuple #[.string a, .string b]) (by simp [results, Try.results99, go_sem]; try rfl) rfl ?_
    exact ⟨rfl, rfl⟩

theorem l9Cross_c (c : Bool) (a b : ByteArray) (w : World) : Calls Try.prog 102 #[.string a, .string b, .bool c] w fun e w' => e = .returned (.tuple #[.string (crA c a b), .string (crB c a b)]) ∧ w' = w := by
  cases c with
  | true =>
    go_enter Try.func102, Try.ntmps102
    go_wp2
    refine bodyPost_ret (v := .tuple #[.string b, .string a]) (by simp [results, Try.results102, go_sem]; try rfl) rfl ?_
    exact ⟨rfl, rfl⟩
  | false =>
    go_enter Try.func102, Try.ntmps102
    go_wp2
    refine bodyPost_ret (v := .tuple #[.string a, .string b]) (by simp [results, Try.results102, go_sem]; try rfl) rfl ?_
    exact ⟨rfl, rfl⟩

end Go.Proofs.Ytlepejafednlfaa
