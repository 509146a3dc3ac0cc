/- Chapter 9: the sizes of texts that are let through. -/
import Derived.Test.YtlepejafednlfaaBS
namespace Go.Proofs.Ytlepejafednlfaa
set_option linter.unusedVariables false
set_option maxRecDepth 1000000
set_option linter.unusedSimpArgs false
open Go.RowKit

set_option maxHeartbeats 400000 in
theorem szStringS9_at (b o n c : Nat) (left : Nat) (ss : List ByteArray) (w : World) (hx : ss.length = n) (hn : n ≤ 9223372036854775807) (hl : left ≤ 1048576) (hs : ∀ s ∈ ss, s.size ≤ 9223372036854775807)
    (hc : ∀ j, j < n → w.cell? ⟨b, o + j, none⟩ = some (.string (ss.getD j ByteArray.empty))) :
    Calls Try.prog 52 #[.slice (some ⟨b, o, none⟩) n c, .int .i64 left] w fun e w' => ∃ r : Int, e = .returned (.int .i64 r) ∧ w' = w ∧ r ≤ left ∧ (0 ≤ r → n ≤ 1048576 ∧ ∀ s ∈ ss, s.size ≤ 1048576) := by
  have HX : Hid (ss.length = n) := hx
  have HC : Hid (∀ j, j < n → w.cell? ⟨b, o + j, none⟩ = some (.string (ss.getD j ByteArray.empty))) := hc
  have HS : Hid (∀ s ∈ ss, s.size ≤ 9223372036854775807) := hs
  clear hx hc hs
  by_cases h1 : left < n
  · have hlt : (left : Int) - n < 0 := by omega
    go_enter Try.func52, Try.ntmps52
    go_wp2
    go_ret
    exact ⟨-1, rfl, rfl, by omega, fun h => by omega⟩
  · have hge : 0 ≤ (left : Int) - n := by omega
    go_enter Try.func52, Try.ntmps52
    go_wp2
    go_loop [1, 5] (fun lv i => ∃ (k q : Nat), k ≤ n ∧ i = .int .i64 k ∧ lv = .int .i64 q ∧ q ≤ left ∧ Hid (∀ j, j < k → (ss.getD j ByteArray.empty).size ≤ 1048576)) (fun _ i => n - (intOf i).toNat)
    case atStart => exact ⟨0, left - n, Nat.zero_le _, rfl, by go_num, by omega, fun j h => absurd h (by omega)⟩
    case round =>
      obtain ⟨k, q, hk, rfl, rfl, hq, hQ⟩ := hrel
      by_cases hlt : k < n
      · have g1 := HC.out k hlt
        have hsz := HS.out (ss.getD k ByteArray.empty) (by have h : k < ss.length := by rw [HX.out]; exact hlt
                                                           simp only [List.getD, List.getElem?_eq_getElem h, Option.getD_some]; exact List.getElem_mem _)
        have HN : Hid ((ss.getD k ByteArray.empty).size ≤ 1048576 → ∀ j, j < k + 1 → (ss.getD j ByteArray.empty).size ≤ 1048576) := fun h j hj => by
          by_cases e : j = k
          · rw [e]; exact h
          · exact hQ.out j (by omega)
        clear hQ
        generalize ss.getD k ByteArray.empty = s at g1 hsz HN
        by_cases h2 : q < s.size
        · have h3 : (q : Int) - s.size < 0 := by omega
          go_wp2
          go_ret
          exact ⟨-1, rfl, rfl, by omega, fun h => by omega⟩
        · have h3 : 0 ≤ (q : Int) - s.size := by omega
          go_wp2
          go_round
          case rel => exact ⟨k + 1, q - s.size, by omega, by go_num, by go_num, by omega, HN.out (by omega)⟩
          case measure => simp [intOf]; omega
      · go_wp2
        go_ret
        refine ⟨q, rfl, rfl, by omega, fun _ => ⟨by omega, fun s hs => ?_⟩⟩
        obtain ⟨j, hj, rfl⟩ := List.getElem_of_mem hs
        have := hQ.out j (by rw [HX.out] at hj; omega)
        simpa [List.getD, hj] using this

theorem szStringS9_c (ao : Option Addr) (n c : Nat) (left : Nat) (ss : List ByteArray) (w : World) (hx : ss.length = n) (hn : n ≤ 9223372036854775807) (hl : left ≤ 1048576) (hs : ∀ s ∈ ss, s.size ≤ 9223372036854775807) (hr : RdS w ao ss) :
    Calls Try.prog 52 #[.slice ao n c, .int .i64 left] w fun e w' => ∃ r : Int, e = .returned (.int .i64 r) ∧ w' = w ∧ r ≤ left ∧ (0 ≤ r → n ≤ 1048576 ∧ ∀ s ∈ ss, s.size ≤ 1048576) := by
  rcases hr with rfl | ⟨b, o, rfl, hc⟩
  · simp at hx; subst hx
    refine (szStringS_nil ao c left w hl).mono ?_
    rintro e w' ⟨rfl, hw⟩
    exact ⟨left, rfl, hw, Int.le_refl _, fun _ => ⟨by omega, fun s h => by cases h⟩⟩
  · exact szStringS9_at b o n c left ss w hx hn hl hs (by rw [← hx]; exact hc)

end Go.Proofs.Ytlepejafednlfaa
