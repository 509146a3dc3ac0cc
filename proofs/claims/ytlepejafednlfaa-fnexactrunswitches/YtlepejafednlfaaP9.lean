/- Chapter 9: plain facts on orders put together and taken apart. -/
import Derived.Test.YtlepejafednlfaaNO4
import Derived.Test.YtlepejafednlfaaBS
namespace Go.Proofs.Ytlepejafednlfaa
set_option linter.unusedVariables false
set_option maxRecDepth 1000000
set_option linter.unusedSimpArgs false
open Go.RowKit

theorem take_snoc9 {α : Type} (d : α) {xs : List α} {k : Nat} (h : k < xs.length) : xs.take (k + 1) = xs.take k ++ [xs.getD k d] := by
  rw [List.take_succ_eq_append_getElem h]; simp [List.getD, h]
theorem Rd.get9 {w : World} {ao : Option Addr} {xs : List Int} (h : Rd w ao xs) {k : Nat} (hk : k < xs.length) : ∃ b o, ao = some ⟨b, o, none⟩ ∧ w.cell? ⟨b, o + k, none⟩ = some (.int .i64 (xs.getD k 0)) := by
  rcases h with rfl | ⟨b, o, rfl, hc⟩
  · simp at hk
  · exact ⟨b, o, rfl, hc k hk⟩
theorem RdS.get9 {w : World} {ao : Option Addr} {xs : List ByteArray} (h : RdS w ao xs) {k : Nat} (hk : k < xs.length) : ∃ b o, ao = some ⟨b, o, none⟩ ∧ w.cell? ⟨b, o + k, none⟩ = some (.string (xs.getD k ByteArray.empty)) := by
  rcases h with rfl | ⟨b, o, rfl, hc⟩
  · simp at hk
  · exact ⟨b, o, rfl, hc k hk⟩

theorem getD_mem9 {α : Type} (d : α) {xs : List α} {k : Nat} (h : k < xs.length) : xs.getD k d ∈ xs := by
  simp only [List.getD, List.getElem?_eq_getElem h, Option.getD_some]; exact List.getElem_mem _
theorem ord_in {xs : List Int} (h : ordB xs = true) {k : Nat} (hk : k < xs.length) : 0 ≤ xs.getD k 0 ∧ xs.getD k 0 < xs.length :=
  (((ordB_iff xs).1 h).2 k hk).1
theorem ord_len {xs : List Int} (h : ordB xs = true) : xs.length ≤ 9 := ((ordB_iff xs).1 h).1

/-- Two orders put together. -/
def thenL (xs ys : List Int) : List Int := ys.map (fun k => xs.getD k.toNat 0)
theorem thenL_length (xs ys : List Int) : (thenL xs ys).length = ys.length := by simp [thenL]
theorem thenL_take (xs ys : List Int) (k : Nat) : thenL xs (ys.take k) = (thenL xs ys).take k := by simp [thenL, List.map_take]
def thenF (xs ys : List Int) : List Int × Bool := if ordB xs = true ∧ ordB ys = true ∧ xs.length = ys.length then (thenL xs ys, true) else ([], false)
theorem thenF_short {xs ys zs : List Int} {fb : Bool} (h : thenF xs ys = (zs, fb)) : zs.length ≤ 9 := by
  unfold thenF at h
  split at h
  · rename_i hc
    simp only [Prod.mk.injEq] at h
    rw [← h.1, thenL_length]; exact ord_len hc.2.1
  · simp only [Prod.mk.injEq] at h
    rw [← h.1]; simp

/-- The order that undoes one, k numbers of it laid. -/
def backL (xs : List Int) : Nat → List Int
  | 0 => List.replicate xs.length 0
  | k + 1 => (backL xs k).set (xs.getD k 0).toNat k
theorem backL_length (xs : List Int) : ∀ k, (backL xs k).length = xs.length
  | 0 => by simp [backL]
  | k + 1 => by simp [backL, backL_length xs k]
def backF (xs : List Int) : List Int × Bool := if ordB xs = true then (backL xs xs.length, true) else ([], false)
theorem backF_short {xs zs : List Int} {fb : Bool} (h : backF xs = (zs, fb)) : zs.length ≤ 9 := by
  unfold backF at h
  split at h
  · rename_i hc
    simp only [Prod.mk.injEq] at h
    rw [← h.1, backL_length]; exact ord_len hc
  · simp only [Prod.mk.injEq] at h
    rw [← h.1]; simp

/-- Texts in an order. -/
def applyL (xs : List Int) (ls : List ByteArray) : List ByteArray := xs.map (fun k => ls.getD k.toNat ByteArray.empty)
theorem applyL_length (xs : List Int) (ls : List ByteArray) : (applyL xs ls).length = xs.length := by simp [applyL]
def applyF (xs : List Int) (ls : List ByteArray) : List ByteArray × Bool := if ordB xs = true ∧ ls.length = xs.length then (applyL xs ls, true) else ([], false)
theorem applyF_short {xs : List Int} {ls zs : List ByteArray} {fb : Bool} (h : applyF xs ls = (zs, fb)) : zs.length ≤ 9 := by
  unfold applyF at h
  split at h
  · rename_i hc
    simp only [Prod.mk.injEq] at h
    rw [← h.1, applyL_length]; exact ord_len hc.1
  · simp only [Prod.mk.injEq] at h
    rw [← h.1]; simp

/-- The numbers of ports, and their switches. -/
def portsB (m : Int) : Bool := decide (m = 1 ∨ m = 2 ∨ m = 4 ∨ m = 8)
def cntI (m : Int) : Int := if m = 8 then 20 else if m = 4 then 6 else m - 1
def countF (m : Int) : Int × Bool := if portsB m = true then (cntI m, true) else (0, false)

end Go.Proofs.Ytlepejafednlfaa
