/- Chapter 12: the keys of a map, sorted: slices.Sorted(maps.Keys(m)). -/
import Derived.Test.YtleddlfojogdiaaM12
import Derived.Shelf.SlIterI.Nil
import Derived.Shelf.SortM.Plain
import Derived.Shelf.SortM.SortNone
import Derived.Ground.GgzProg
import Derived.Ground.SlgmProg
namespace Go.Proofs.Ytleddlfojogdiaa
set_option linter.unusedVariables false
set_option maxRecDepth 1000000
set_option linter.unusedSimpArgs false
open Go.RowKit Go.Maps Go.Sort Go.Shelf

shelf_lay_g SlLaysZI.n7 Ggz 7 at Try 123 as Try.keysA
shelf_lay_g SlLaysZI.n6 Ggz 6 at Try 122 as Try.sortedA
shelf_lay_g SlLaysM.n5 Slgm 5 at Try 139 as Try.sortA

theorem Try.sortsA (m : Nat) : AnyZI.SortsIn Try.prog Try.sortedA_ren Fence.wide m :=
  ⟨fun blk off cap ss W hH hblk hsz => callsIn_wide.2 (AnyM.slices_Sort_int Try.sortA blk off cap ss W hH hblk hsz),
   fun p cap W => callsIn_wide.2 (AnyM.slices_Sort_int_none Try.sortA p cap W)⟩

theorem keysT_c (mb : Option Nat) (W : World) : Calls Try.prog 123 #[.map mb] W fun e w' => e = .returned (.func (.func 140) #[] #[.pointer (some ⟨W.heap.size, 0, none⟩)]) ∧ w' = W.alloc (.cells #[.map mb] 128) := by
  refine (callsIn_wide (n := 5)).1 ?_
  exact AnyZI.keys_in Try.keysA Fence.wide 5 trivial rfl mb W

set_option maxHeartbeats 1000000 in
theorem sortedT_c (b n : Nat) (g : Te) (w : World) (h : MT w b n g) (hn : n ≤ 100) (hk : keysOk g) :
    Calls Try.prog 122 #[.func (.func 140) #[] #[.pointer (some ⟨w.heap.size, 0, none⟩)]] (w.alloc (.cells #[.map (some b)] 128)) fun e w' => ∃ v, e = .returned v ∧ Own w' w.heap.size v (([0, 1, 2, 3, 4, 5, 6] : List Int).filter fun x => (g x).isSome) ∧ Below w.heap.size w w' := by
  obtain ⟨D, hown, hT⟩ := h
  have hsz : Maps.size D ≤ n := by
    obtain ⟨es, clock, hB, F, hs, rfl⟩ := id hown
    rw [size_eq, length_sorted]
    simpa using hs
  have hbl := hown.lt
  have hseq : SeqGives Fence.wide 2 Try.prog 140 #[.pointer (some ⟨w.heap.size, 0, none⟩)] encZ (fun ss => ss.Perm (intKeys D)) (Maps.size D) (w.alloc (.cells #[.map (some b)] 128)) :=
    AnyZI.keys_gives (ρ := Try.keysA_ren) { Try.keysA with } Fence.wide _ trivial rfl (by omega) w.heap.size b n D _ (by simp) (by simp) (by
      obtain ⟨es, clock, hb, Ft, hs, hD⟩ := hown
      exact ⟨es, clock, (Below.heap_alloc _ _ b hbl).trans hb, Ft, hs, hD⟩)
  have cS := AnyZI.sorted_in Try.sortedA Fence.wide 5 trivial trivial trivial trivial rfl (by omega) (Try.sortsA _) (enters_of Try.func139 (by kernel_rfl) rfl) 140 #[.pointer (some ⟨w.heap.size, 0, none⟩)] trivial (enters_of Try.func140 (by kernel_rfl) rfl) _ _ (by unfold maxLen; omega) (by omega) _ hseq
  change CallsIn _ _ Try.prog 122 _ _ _ at cS
  refine ((callsIn_wide (n := 5)).1 cS).mono ?_
  rintro e w' ⟨v, ss, rfl, hS, hrow, _, hb⟩
  rw [keys_sorted hown hT hk hS] at hrow
  have hlen : ss.length = (([0, 1, 2, 3, 4, 5, 6] : List Int).filter fun x => (g x).isSome).length := by
    rw [← keys_sorted hown hT hk hS, List.length_mergeSort]
  rw [hlen] at hrow
  exact ⟨v, rfl, ownsRow_base_a hrow (by simp), ((Below.refl _ w).alloc (Nat.le_refl _) _).trans (hb.mono (by simp))⟩

end Go.Proofs.Ytleddlfojogdiaa
