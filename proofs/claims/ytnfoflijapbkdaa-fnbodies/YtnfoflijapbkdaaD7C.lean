/- What chapter 7 draws: a text to be checked. -/
import Derived.Test.YtnfoflijapbkdaaD7
import Derived.Deep.RegionHeld3
import Derived.Deep.RegionWith
import Derived.Deep.Light
namespace Go.Proofs.Ytnfoflijapbkdaa
set_option linter.unusedVariables false
set_option maxRecDepth 1000000
set_option linter.unusedSimpArgs false
open Go.RowKit

set_option maxHeartbeats 2000000 in
theorem drawCheck_c (ao : Option Addr) (n c : Nat) (w : World) (hn : n ≤ 9223372036854775807) (h : CodeOk w w.heap.size ao n) :
    Calls Try.prog 35 #[.slice ao n c] w fun e w' => ∃ s : ByteArray, e = .returned (.string s) ∧ s.size ≤ 100 ∧ Below w.heap.size w w' := by
  have C0 : Hid (Cur (w.alloc (.cells #[.slice ao n c, .int .i64 0, .int .u64 0] 62)) w.heap.size ao n c 0) := cur_new _ hn h
  have B0 : Hid (Below w.heap.size w (w.alloc (.cells #[.slice ao n c, .int .i64 0, .int .u64 0] 62))) := balloc _ _
  clear h
  obtain ⟨W0, hW0⟩ : ∃ W0, w.alloc (.cells #[.slice ao n c, .int .i64 0, .int .u64 0] 62) = W0 := ⟨_, rfl⟩
  rw [hW0] at C0 B0
  have hS0 : w.heap.size < W0.heap.size := C0.out.lt
  obtain ⟨M40, hmk40, hrow40⟩ := make_run 40 (by omega)
  obtain ⟨M41, hmk41, hrow41⟩ := make_run 41 (by omega)
  have m40 : ∀ W : World, (Instr.makeSlice 22 (.int .i64 40) (.int .i64 40)).run Try.prog W = .ok (.slice (some ⟨W.heap.size, 0, none⟩) 40 40) (W.alloc (.cells M40 5)) := hmk40
  have m41 : ∀ W : World, (Instr.makeSlice 22 (.int .i64 41) (.int .i64 41)).run Try.prog W = .ok (.slice (some ⟨W.heap.size, 0, none⟩) 41 41) (W.alloc (.cells M41 5)) := hmk41
  have T40 : ∀ (W : World) (g : Nat), RowB W g (zeros 40) → (convert 22 9 (.slice (some ⟨g, 0, none⟩) 40 40)).run Try.prog W = .ok (.string (tx (zeros 40))) W := fun W g h => h.text 40 40 (by simp [zeros])
  have T41 : ∀ (W : World) (g : Nat), RowB W g (zeros 41) → (convert 22 9 (.slice (some ⟨g, 0, none⟩) 41 41)).run Try.prog W = .ok (.string (tx (zeros 41))) W := fun W g h => h.text 41 41 (by simp [zeros])
  have z40 : (tx (zeros 40)).size ≤ 100 := by rw [zeros_size]; omega
  have z41 : (tx (zeros 41)).size ≤ 100 := by rw [zeros_size]; omega
  generalize tx (zeros 40) = t40 at T40 z40
  generalize tx (zeros 41) = t41 at T41 z41
  have dr : ∀ W : World, Below W.heap.size W W.drew := fun W => (Below.refl _ _).drew
  have c1 := T40 (W0.alloc (.cells M40 5)).drew W0.heap.size ((hrow40 W0).later (dr _))
  have c2 := T40 ((W0.alloc (.cells M40 5)).alloc (.cells M41 5)).drew W0.heap.size (((hrow40 W0).later (balloc _ _)).later (dr _))
  have c3 := T41 ((W0.alloc (.cells M40 5)).alloc (.cells M41 5)).drew (W0.heap.size + 1) (by have := (hrow41 (W0.alloc (.cells M40 5))).later (dr _); simpa using this)
  have c4 := T41 (W0.alloc (.cells M41 5)).drew W0.heap.size ((hrow41 W0).later (dr _))
  have c5 := T41 ((W0.alloc (.cells M41 5)).alloc (.cells M40 5)).drew W0.heap.size (((hrow41 W0).later (balloc _ _)).later (dr _))
  have c6 := T40 ((W0.alloc (.cells M41 5)).alloc (.cells M40 5)).drew (W0.heap.size + 1) (by have := (hrow40 (W0.alloc (.cells M41 5))).later (dr _); simpa using this)
  have HOF : Hid (∀ (V : World) (r : Nat), Below W0.heap.size W0 V → r = V.heap.size → Calls Try.prog 70 #[.pointer (some ⟨w.heap.size, 0, none⟩), .slice (some ⟨r, 0, none⟩) 5 5] (V.alloc (.cells #[.string ⟨#[]⟩, .string ⟨#[97, 98]⟩, .string ⟨#[115, 111, 109, 101, 32, 98, 121, 116, 101, 115]⟩, .string t40, .string t41] 9)).drew fun e w' => ∃ s : ByteArray, e = .returned (.string s) ∧ s.size ≤ 100 ∧ Below w.heap.size w w') := fun V r hV hr => by
    subst hr
    have hlit := litS_cells V #[.string ⟨#[]⟩, .string ⟨#[97, 98]⟩, .string ⟨#[115, 111, 109, 101, 32, 98, 121, 116, 101, 115]⟩, .string t40, .string t41] 9 5 rfl ⟨by decide, by decide, by decide, z40, z41, trivial⟩
    have hlit' : ∀ j, j < 5 → ∃ s : ByteArray, (V.alloc (.cells #[.string ⟨#[]⟩, .string ⟨#[97, 98]⟩, .string ⟨#[115, 111, 109, 101, 32, 98, 121, 116, 101, 115]⟩, .string t40, .string t41] 9)).drew.cell? ⟨V.heap.size, j, none⟩ = some (.string s) ∧ s.size ≤ 100 := hlit
    have hCV : Cur V w.heap.size ao n c 0 := C0.out.later hV
    refine (of_c w.heap.size ao n c 0 V.heap.size 5 _ (by omega) (by omega) hlit' (by have := hCV.lt; omega) ((hCV.alloc _).later (dr _))).mono ?_
    rintro e w' ⟨s, rfl, hs, _, hg⟩
    have hBV : Below w.heap.size w V := B0.out.trans (hV.mono B0.out.size)
    refine ⟨s, rfl, hs, (hBV.alloc hBV.size _).drew.trans (hg.below ?_ (Nat.le_refl _))⟩
    have := hBV.size
    show w.heap.size ≤ (V.alloc _).heap.size
    simp; omega
  clear T40 T41 hmk40 hmk41 hrow40 hrow41 dr C0 z40 z41
  go_enter Try.func35, Try.ntmps35
  go_wp2_with fail
  go_region_with (first | (go_at_call 70; refine (HOF.out _ _ (by repeat (first | exact Below.refl _ _ | refine Below.drew ?_ | refine Below.alloc ?_ (by first | exact Nat.le_refl _ | (simp; done) | (simp; omega)) _)) (by simp)).mono ?_; rintro e w5 ⟨s, rfl, hs, hb⟩; have HB : Hid (Below w.heap.size w w5) := hb; clear hb))
  all_goals go_wp2
  all_goals go_ret
  all_goals exact ⟨s, rfl, hs, HB.out⟩

end Go.Proofs.Ytnfoflijapbkdaa
