/- Chapter 14: scalesOfEvidence. -/
import Derived.Test.YtleddlfojogdiaaGreatEV14
import Derived.Test.YtleddlfojogdiaaGreatS14
import Derived.Deep.RegionWith
import Derived.Deep.RegionLaw
import Derived.Lib.SliceRun
import Derived.Laws.EntriesVeiled
import Derived.Lib.AppendZeros
namespace Go.Proofs.YtleddlfojogdiaaGreat
set_option linter.unusedVariables false
set_option maxRecDepth 1000000
set_option linter.unusedSimpArgs false
open Go.RowKit

theorem cell1_new (w : World) (v : Value) (t : TypeId) (r : Nat) (hr : r = w.heap.size) : (w.alloc (.cells #[v] t)).cell? ⟨r, 0, none⟩ = some v ∧ (w.alloc (.cells #[v] t)).frozen? ⟨r, 0, none⟩ = false := by
  subst hr
  exact ⟨by simp, by rw [World.frozen?_alloc_mark]; simp⟩

set_option maxHeartbeats 8000000 in
theorem scalesOfEvidence_c (f : Int) (ao : Option Addr) (n c : Nat) (lo : Option Addr) (m d : Nat) (w : World) :
    Calls Tryz.prog 36 #[.int .i64 f, .slice ao n c, .slice lo m d] w fun e w' => e = .returned (.agg #[.func (.func 63) #[] #[.pointer (some ⟨w.heap.size + 1, 0, none⟩), .pointer (some ⟨w.heap.size + 1 + 1 + 1 + 1, 0, none⟩)], .func (.func 65) #[] #[.pointer (some ⟨w.heap.size + 1 + 1 + 1 + 1, 0, none⟩)]]) ∧ (w'.cell? ⟨w.heap.size, 0, none⟩ = some (.int .i64 f) ∧ w'.cell? ⟨w.heap.size + 1, 0, none⟩ = some (.slice ao n c) ∧ w'.cell? ⟨w.heap.size + 1 + 1, 0, none⟩ = some (.slice lo m d)) ∧ w'.cell? ⟨w.heap.size + 1 + 1 + 1 + 1, 0, none⟩ = some (.func (.func 62) #[] #[.pointer (some ⟨w.heap.size, 0, none⟩), .pointer (some ⟨w.heap.size + 1 + 1, 0, none⟩)]) ∧ Below w.heap.size w w' := by
  have h0 : (((((w.alloc (.cells #[.int .i64 f] 3)).alloc (.cells #[.slice ao n c] 23)).alloc (.cells #[.slice lo m d] 24)).alloc (.cells #[.nilFunc, .nilFunc] 72)).alloc (.cells #[.nilFunc] 99)).cell? ⟨w.heap.size, 0, none⟩ = some (.int .i64 f) := cell_keep (S := 0) (balloc _ _) (cell_keep (S := 0) (balloc _ _) (cell_keep (S := 0) (balloc _ _) (cell_keep (S := 0) (balloc _ _) ((cell1_new _ _ _ _ (by simp)).1))))
  have h1 : (((((w.alloc (.cells #[.int .i64 f] 3)).alloc (.cells #[.slice ao n c] 23)).alloc (.cells #[.slice lo m d] 24)).alloc (.cells #[.nilFunc, .nilFunc] 72)).alloc (.cells #[.nilFunc] 99)).cell? ⟨w.heap.size + 1, 0, none⟩ = some (.slice ao n c) := cell_keep (S := 0) (balloc _ _) (cell_keep (S := 0) (balloc _ _) (cell_keep (S := 0) (balloc _ _) ((cell1_new _ _ _ _ (by simp)).1)))
  have h2 : (((((w.alloc (.cells #[.int .i64 f] 3)).alloc (.cells #[.slice ao n c] 23)).alloc (.cells #[.slice lo m d] 24)).alloc (.cells #[.nilFunc, .nilFunc] 72)).alloc (.cells #[.nilFunc] 99)).cell? ⟨w.heap.size + 1 + 1, 0, none⟩ = some (.slice lo m d) := cell_keep (S := 0) (balloc _ _) (cell_keep (S := 0) (balloc _ _) ((cell1_new _ _ _ _ (by simp)).1))
  have hV0 : X2 (((((w.alloc (.cells #[.int .i64 f] 3)).alloc (.cells #[.slice ao n c] 23)).alloc (.cells #[.slice lo m d] 24)).alloc (.cells #[.nilFunc, .nilFunc] 72)).alloc (.cells #[.nilFunc] 99)) (w.heap.size + 1 + 1 + 1) .nilFunc .nilFunc := (x2_new (((w.alloc (.cells #[.int .i64 f] 3)).alloc (.cells #[.slice ao n c] 23)).alloc (.cells #[.slice lo m d] 24)) .nilFunc .nilFunc 72 (w.heap.size + 1 + 1 + 1) (by simp)).later (balloc _ _)
  have hD0 : (((((w.alloc (.cells #[.int .i64 f] 3)).alloc (.cells #[.slice ao n c] 23)).alloc (.cells #[.slice lo m d] 24)).alloc (.cells #[.nilFunc, .nilFunc] 72)).alloc (.cells #[.nilFunc] 99)).cell? ⟨w.heap.size + 1 + 1 + 1 + 1, 0, none⟩ = some (.nilFunc) := (cell1_new _ _ _ _ (by simp)).1
  have hDf : (((((w.alloc (.cells #[.int .i64 f] 3)).alloc (.cells #[.slice ao n c] 23)).alloc (.cells #[.slice lo m d] 24)).alloc (.cells #[.nilFunc, .nilFunc] 72)).alloc (.cells #[.nilFunc] 99)).frozen? ⟨w.heap.size + 1 + 1 + 1 + 1, 0, none⟩ = false := (cell1_new _ _ _ _ (by simp)).2
  have hL : Below w.heap.size w (((((w.alloc (.cells #[.int .i64 f] 3)).alloc (.cells #[.slice ao n c] 23)).alloc (.cells #[.slice lo m d] 24)).alloc (.cells #[.nilFunc, .nilFunc] 72)).alloc (.cells #[.nilFunc] 99)) := ((((((Below.refl _ w).alloc (Nat.le_refl _) _).alloc (by simp) _).alloc (by simp; omega) _).alloc (by simp; omega) _).alloc (by simp; omega) _)
  obtain ⟨V, hV⟩ : ∃ V, (((((w.alloc (.cells #[.int .i64 f] 3)).alloc (.cells #[.slice ao n c] 23)).alloc (.cells #[.slice lo m d] 24)).alloc (.cells #[.nilFunc, .nilFunc] 72)).alloc (.cells #[.nilFunc] 99)) = V := ⟨_, rfl⟩
  rw [hV] at h0 h1 h2 hV0 hD0 hDf hL
  obtain ⟨V1, hV1⟩ : ∃ V1, V.setCell ⟨w.heap.size + 1 + 1 + 1 + 1, 0, none⟩ (.func (.func 62) #[] #[.pointer (some ⟨w.heap.size, 0, none⟩), .pointer (some ⟨w.heap.size + 1 + 1, 0, none⟩)]) = V1 := ⟨_, rfl⟩
  have k0 : V1.cell? ⟨w.heap.size, 0, none⟩ = some (.int .i64 f) := by rw [← hV1, World.cell?_setCell_other _ _ _ _ (by simp)]; exact h0
  have k1 : V1.cell? ⟨w.heap.size + 1, 0, none⟩ = some (.slice ao n c) := by rw [← hV1, World.cell?_setCell_other _ _ _ _ (by simp)]; exact h1
  have k2 : V1.cell? ⟨w.heap.size + 1 + 1, 0, none⟩ = some (.slice lo m d) := by rw [← hV1, World.cell?_setCell_other _ _ _ _ (by simp)]; exact h2
  have k4 : V1.cell? ⟨w.heap.size + 1 + 1 + 1 + 1, 0, none⟩ = some (.func (.func 62) #[] #[.pointer (some ⟨w.heap.size, 0, none⟩), .pointer (some ⟨w.heap.size + 1 + 1, 0, none⟩)]) := by rw [← hV1]; exact World.cell?_setCell_same _ _ _ hD0
  have kX : X2 V1 (w.heap.size + 1 + 1 + 1) .nilFunc .nilFunc := by
    refine ⟨⟨?_, ?_⟩, fun j => ?_⟩
    · rw [← hV1, World.cell?_setCell_other _ _ _ _ (by simp)]; exact hV0.1.1
    · rw [← hV1, World.cell?_setCell_other _ _ _ _ (by simp)]; exact hV0.1.2
    · rw [← hV1, World.frozen?_setCell]; exact hV0.2 j
  have hL1 : Below w.heap.size w V1 := by rw [← hV1]; exact hL.setCell (by show w.heap.size ≤ w.heap.size + 1 + 1 + 1 + 1; omega) _
  obtain ⟨V2, hV2⟩ : ∃ V2, (V1.setCell ⟨w.heap.size + 1 + 1 + 1, 0, none⟩ (.func (.func 63) #[] #[.pointer (some ⟨w.heap.size + 1, 0, none⟩), .pointer (some ⟨w.heap.size + 1 + 1 + 1 + 1, 0, none⟩)])).setCell ⟨w.heap.size + 1 + 1 + 1, 1, none⟩ (.func (.func 65) #[] #[.pointer (some ⟨w.heap.size + 1 + 1 + 1 + 1, 0, none⟩)]) = V2 := ⟨_, rfl⟩
  have kY : X2 V2 (w.heap.size + 1 + 1 + 1) (.func (.func 63) #[] #[.pointer (some ⟨w.heap.size + 1, 0, none⟩), .pointer (some ⟨w.heap.size + 1 + 1 + 1 + 1, 0, none⟩)]) (.func (.func 65) #[] #[.pointer (some ⟨w.heap.size + 1 + 1 + 1 + 1, 0, none⟩)]) := by rw [← hV2]; exact (kX.set0 _).set1 _
  have m0 : V2.cell? ⟨w.heap.size, 0, none⟩ = some (.int .i64 f) := by rw [← hV2, World.cell?_setCell_other _ _ _ _ (by simp), World.cell?_setCell_other _ _ _ _ (by simp)]; exact k0
  have m1 : V2.cell? ⟨w.heap.size + 1, 0, none⟩ = some (.slice ao n c) := by rw [← hV2, World.cell?_setCell_other _ _ _ _ (by simp), World.cell?_setCell_other _ _ _ _ (by simp)]; exact k1
  have m2 : V2.cell? ⟨w.heap.size + 1 + 1, 0, none⟩ = some (.slice lo m d) := by rw [← hV2, World.cell?_setCell_other _ _ _ _ (by simp), World.cell?_setCell_other _ _ _ _ (by simp)]; exact k2
  have m4 : V2.cell? ⟨w.heap.size + 1 + 1 + 1 + 1, 0, none⟩ = some (.func (.func 62) #[] #[.pointer (some ⟨w.heap.size, 0, none⟩), .pointer (some ⟨w.heap.size + 1 + 1, 0, none⟩)]) := by rw [← hV2, World.cell?_setCell_other _ _ _ _ (by simp), World.cell?_setCell_other _ _ _ _ (by simp)]; exact k4
  have hL2 : Below w.heap.size w V2 := by rw [← hV2]; exact (hL1.setCell (by show w.heap.size ≤ w.heap.size + 1 + 1 + 1; omega) _).setCell (by show w.heap.size ≤ w.heap.size + 1 + 1 + 1; omega) _
  have HR : Hid (((V2.cell? ⟨w.heap.size, 0, none⟩ = some (.int .i64 f) ∧ V2.cell? ⟨w.heap.size + 1, 0, none⟩ = some (.slice ao n c) ∧ V2.cell? ⟨w.heap.size + 1 + 1, 0, none⟩ = some (.slice lo m d)) ∧ V2.cell? ⟨w.heap.size + 1 + 1 + 1 + 1, 0, none⟩ = some (.func (.func 62) #[] #[.pointer (some ⟨w.heap.size, 0, none⟩), .pointer (some ⟨w.heap.size + 1 + 1, 0, none⟩)])) ∧ Below w.heap.size w V2) := ⟨⟨⟨m0, m1, m2⟩, m4⟩, hL2⟩
  obtain ⟨⟨y0, y1⟩, yf⟩ := kX
  have yf0 := yf 0
  have yf1 := yf 1
  obtain ⟨⟨t0, t1⟩, _⟩ := kY
  clear h0 h1 h2 hV0 hL k0 k1 k2 hL1 m0 m1 m2 m4 hL2 yf
  go_enter Tryz.func36, Tryz.ntmps36
  go_wp2
  refine bodyPost_ret (v := .agg #[.func (.func 63) #[] #[.pointer (some ⟨w.heap.size + 1, 0, none⟩), .pointer (some ⟨w.heap.size + 1 + 1 + 1 + 1, 0, none⟩)], .func (.func 65) #[] #[.pointer (some ⟨w.heap.size + 1 + 1 + 1 + 1, 0, none⟩)]]) (by simp [results, Tryz.results36, go_sem, t0, t1]; try rfl) rfl ?_
  exact ⟨rfl, HR.out.1.1, HR.out.1.2, HR.out.2⟩

end Go.Proofs.YtleddlfojogdiaaGreat
