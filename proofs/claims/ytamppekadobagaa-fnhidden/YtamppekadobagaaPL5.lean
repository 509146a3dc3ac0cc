/- Chapter 5: PolyThrough, the contracts of both sides. -/
import Derived.Test.YtamppekadobagaaPK5
namespace Go.Proofs.Ytamppekadobagaa
set_option linter.unusedVariables false
set_option linter.unusedSimpArgs false
open Go.RowKit

def polyThF (l : List (Int × Int)) : List Int × Bool := if partsB l = true then (vIs (polyF (l.map toP)), true) else ([], false)
theorem polyThF_short {l : List (Int × Int)} {zs : List Int} {fb : Bool} (h : polyThF l = (zs, fb)) : zs.length ≤ 8 := by
  unfold polyThF at h
  split at h
  · rename_i hc
    simp only [Prod.mk.injEq] at h
    obtain ⟨fl, rfl, hg⟩ := partsB_parts hc
    rw [← h.1, vIs_length, pIs_toP, polyF_length fl hg.1]; exact hg.2.2.2
  · simp only [Prod.mk.injEq] at h
    rw [← h.1]; simp

theorem specPoly_no (ao : Option Addr) (n c : Nat) (l : List (Int × Int)) (w : World) (hx : l.length = n) (hn : n ≤ 8796093022208) (hr : RdP w ao l) (h : partsB l = false) :
    Calls Try.prog 36 #[.slice ao n c] w fun e w' => e = .returned (.tuple #[.slice none 0 0, .bool false]) ∧ Below w.heap.size w w' := by
  have q1 := l5Parts_c ao n c l w hx hn hr
  rw [h] at q1
  clear h hr hx
  go_enter Try.func36, Try.ntmps36
  go_wp2_with fail
  refine q1.mono ?_
  clear q1
  rintro e w1 ⟨rfl, hb1⟩
  have HB1 : Hid (Below w.heap.size w w1) := hb1
  clear hb1
  go_wp2
  refine bodyPost_ret (v := .tuple #[.slice none 0 0, .bool false]) (by simp [results, Try.results36, go_sem]; try rfl) rfl ?_
  exact ⟨rfl, HB1.out⟩

theorem specPoly_c (ao : Option Addr) (n c : Nat) (l : List (Int × Int)) (w : World) (hx : l.length = n) (hn : n ≤ 8796093022208) (hr : RdP w ao l) (zs : List Int) (fb : Bool) (p : Nat) (hF : polyThF l = (zs, fb)) (hp : zs.length = p) :
    Calls Try.prog 36 #[.slice ao n c] w fun e w' => ∃ a' c', e = .returned (.tuple #[.slice a' p c', .bool fb]) ∧ Own w' w.heap.size (.slice a' p c') zs ∧ Below w.heap.size w w' := by
  unfold polyThF at hF
  by_cases h : partsB l = true
  · rw [if_pos h] at hF
    simp only [Prod.mk.injEq] at hF
    obtain ⟨rfl, rfl⟩ := hF
    obtain ⟨fl, rfl, hg⟩ := partsB_parts h
    rw [pIs_toP] at hp ⊢
    rw [vIs_length, polyF_length fl hg.1] at hp
    rw [pIs_length] at hx
    obtain rfl : n = p := by omega
    obtain ⟨b, o, rfl, _⟩ := hr.at (n := n) (by rw [pIs_length]; exact hx) (by have := hg.2.2.1; omega)
    exact specPoly_yes b o n c fl w hx hg hr
  · rw [if_neg h] at hF
    simp only [Prod.mk.injEq] at hF
    obtain ⟨rfl, rfl⟩ := hF
    simp at hp
    subst hp
    refine (specPoly_no ao n c l w hx hn hr (by simpa using h)).mono ?_
    rintro e w' ⟨rfl, hb⟩
    exact ⟨none, 0, rfl, World.ownsRow_nil _ _ _ _, hb⟩

theorem implPoly_no (ao : Option Addr) (n c : Nat) (l : List (Int × Int)) (w : World) (hx : l.length = n) (hn : n ≤ 8796093022208) (hr : RdP w ao l) (h : partsB l = false) :
    Calls Try.prog 19 #[.slice ao n c] w fun e w' => e = .returned (.tuple #[.slice none 0 0, .bool false]) ∧ Below w.heap.size w w' := by
  have q1 := areParts_c ao n c l w hx hn hr
  rw [h] at q1
  clear h hr hx
  go_enter Try.func19, Try.ntmps19
  go_wp2_with fail
  refine q1.mono ?_
  clear q1
  rintro e w1 ⟨rfl, hb1⟩
  have HB1 : Hid (Below w.heap.size w w1) := hb1
  clear hb1
  go_wp2
  refine bodyPost_ret (v := .tuple #[.slice none 0 0, .bool false]) (by simp [results, Try.results19, go_sem]; try rfl) rfl ?_
  exact ⟨rfl, HB1.out⟩

theorem implPoly_c (ao : Option Addr) (n c : Nat) (l : List (Int × Int)) (w : World) (hx : l.length = n) (hn : n ≤ 8796093022208) (hr : RdP w ao l) (zs : List Int) (fb : Bool) (p : Nat) (hF : polyThF l = (zs, fb)) (hp : zs.length = p) :
    Calls Try.prog 19 #[.slice ao n c] w fun e w' => ∃ a' c', e = .returned (.tuple #[.slice a' p c', .bool fb]) ∧ Own w' w.heap.size (.slice a' p c') zs ∧ Below w.heap.size w w' := by
  unfold polyThF at hF
  by_cases h : partsB l = true
  · rw [if_pos h] at hF
    simp only [Prod.mk.injEq] at hF
    obtain ⟨rfl, rfl⟩ := hF
    obtain ⟨fl, rfl, hg⟩ := partsB_parts h
    rw [pIs_toP] at hp ⊢
    rw [vIs_length, polyF_length fl hg.1] at hp
    rw [pIs_length] at hx
    obtain rfl : n = p := by omega
    obtain ⟨b, o, rfl, _⟩ := hr.at (n := n) (by rw [pIs_length]; exact hx) (by have := hg.2.2.1; omega)
    have h2 := implPoly_yes b o n c fl w hx hg hr
    rw [← hx, peelF_poly fl hg.1 hg.2.1, hx] at h2
    exact h2
  · rw [if_neg h] at hF
    simp only [Prod.mk.injEq] at hF
    obtain ⟨rfl, rfl⟩ := hF
    simp at hp
    subst hp
    refine (implPoly_no ao n c l w hx hn hr (by simpa using h)).mono ?_
    rintro e w' ⟨rfl, hb⟩
    exact ⟨none, 0, rfl, World.ownsRow_nil _ _ _ _, hb⟩

end Go.Proofs.Ytamppekadobagaa
