/- Chapter 5: ValueAt, both sides. -/
import Derived.Test.YtamppekadobagaaCV5
namespace Go.Proofs.Ytamppekadobagaa
set_option linter.unusedVariables false
set_option linter.unusedSimpArgs false
open Go.RowKit

def valueF (xs : List Int) (x : Int) : Int × Bool := if polyB xs = true ∧ smallB x = true then (vI (evF (xs.map toF) (toF x)), true) else (0, false)
theorem vIs_toF (ps : List F) : (vIs ps).map toF = ps := by
  unfold vIs
  rw [List.map_map]
  conv => rhs; rw [← List.map_id ps]
  exact List.map_congr_left fun a _ => toF_vI a
theorem smallB_parts {x : Int} (h : smallB x = true) : ∃ a : F, x = vI a := by
  unfold smallB at h
  rw [decide_eq_true_iff] at h
  exact ⟨toF x, (vI_toF' h.1 (by omega)).symm⟩

theorem specValue_c (ao : Option Addr) (n c : Nat) (xs : List Int) (x : Int) (w : World) (hx : xs.length = n) (hn : n ≤ 17592186044416) (hr : Rd w ao xs) (r : Int) (fb : Bool) (hF : valueF xs x = (r, fb)) :
    Calls Try.prog 27 #[.slice ao n c, .int .i64 x] w fun e w' => e = .returned (.tuple #[.int .i64 r, .bool fb]) ∧ Below w.heap.size w w' := by
  have hp := fun wx (h : wx = w) => l5Poly_c ao n c xs wx hx hn (by rw [h]; exact hr)
  have hf := l5Field_c x
  unfold valueF at hF
  by_cases h1 : polyB xs = true
  · rw [h1] at hp
    by_cases h2 : smallB x = true
    · rw [if_pos ⟨h1, h2⟩] at hF
      simp only [Prod.mk.injEq] at hF
      obtain ⟨rfl, rfl⟩ := hF
      rw [h2] at hf
      obtain ⟨ps, rfl, hl1, hl8⟩ := polyB_parts h1
      obtain ⟨a, rfl⟩ := smallB_parts h2
      rw [vIs_length] at hx
      rw [vIs_toF, toF_vI]
      have hv := fun wx (h : wx = w) => l5Value_c ao n c ps a wx hx (by omega) (by omega) (by rw [h]; exact hr)
      generalize vI (evF ps a) = r at *
      clear h1 h2
      go_enter Try.func27, Try.ntmps27
      go_wp2_with fail
      refine (hp _ rfl).mono ?_
      clear hp
      rintro e w' ⟨rfl, hw⟩
      subst w'
      go_wp2_with fail
      refine (hf _).mono ?_
      clear hf
      rintro e w' ⟨rfl, hw⟩
      subst w'
      go_wp2_with fail
      refine (hv _ rfl).mono ?_
      clear hv
      rintro e w' ⟨rfl, hw⟩
      subst w'
      go_wp2
      refine bodyPost_ret (v := .tuple #[.int .i64 r, .bool true]) (by simp [results, Try.results27, go_sem]; try rfl) rfl ?_
      exact ⟨rfl, Below.refl _ _⟩
    · rw [if_neg (fun h => h2 h.2)] at hF
      simp only [Prod.mk.injEq] at hF
      obtain ⟨rfl, rfl⟩ := hF
      have h2' : smallB x = false := by simpa using h2
      rw [h2'] at hf
      clear h1 h2 h2'
      go_enter Try.func27, Try.ntmps27
      go_wp2_with fail
      refine (hp _ rfl).mono ?_
      clear hp
      rintro e w' ⟨rfl, hw⟩
      subst w'
      go_wp2_with fail
      refine (hf _).mono ?_
      clear hf
      rintro e w' ⟨rfl, hw⟩
      subst w'
      go_wp2
      refine bodyPost_ret (v := .tuple #[.int .i64 0, .bool false]) (by simp [results, Try.results27, go_sem]; try rfl) rfl ?_
      exact ⟨rfl, Below.refl _ _⟩
  · rw [if_neg (fun h => h1 h.1)] at hF
    simp only [Prod.mk.injEq] at hF
    obtain ⟨rfl, rfl⟩ := hF
    have h1' : polyB xs = false := by simpa using h1
    rw [h1'] at hp
    clear h1 h1' hf
    go_enter Try.func27, Try.ntmps27
    go_wp2_with fail
    refine (hp _ rfl).mono ?_
    clear hp
    rintro e w' ⟨rfl, hw⟩
    subst w'
    go_wp2
    refine bodyPost_ret (v := .tuple #[.int .i64 0, .bool false]) (by simp [results, Try.results27, go_sem]; try rfl) rfl ?_
    exact ⟨rfl, Below.refl _ _⟩

theorem implValue_c (ao : Option Addr) (n c : Nat) (xs : List Int) (x : Int) (w : World) (hx : xs.length = n) (hn : n ≤ 17592186044416) (hr : Rd w ao xs) (r : Int) (fb : Bool) (hF : valueF xs x = (r, fb)) :
    Calls Try.prog 21 #[.slice ao n c, .int .i64 x] w fun e w' => e = .returned (.tuple #[.int .i64 r, .bool fb]) ∧ Below w.heap.size w w' := by
  have hp := fun wx (h : wx = w) => isPoly_c ao n c xs wx hx hn (by rw [h]; exact hr)
  have hf := isSmall_c x
  unfold valueF at hF
  by_cases h1 : polyB xs = true
  · rw [h1] at hp
    by_cases h2 : smallB x = true
    · rw [if_pos ⟨h1, h2⟩] at hF
      simp only [Prod.mk.injEq] at hF
      obtain ⟨rfl, rfl⟩ := hF
      rw [h2] at hf
      obtain ⟨ps, rfl, hl1, hl8⟩ := polyB_parts h1
      obtain ⟨a, rfl⟩ := smallB_parts h2
      rw [vIs_length] at hx
      rw [vIs_toF, toF_vI]
      have hv := fun wx (h : wx = w.alloc (.cells #[.slice ao n c] 23)) => curveOf1_c w.heap.size ao n c ps a wx hx (by omega) (by rw [h]; simp) (by rw [h]; exact hr.later (balloc _ _))
      generalize vI (evF ps a) = r at *
      clear h1 h2
      go_enter Try.func21, Try.ntmps21
      go_wp2_with fail
      refine (hp _ rfl).mono ?_
      clear hp
      rintro e w' ⟨rfl, hw⟩
      subst w'
      go_wp2_with fail
      refine (hf _).mono ?_
      clear hf
      rintro e w' ⟨rfl, hw⟩
      subst w'
      go_wp2_with fail
      refine (curveOf_c ao n c _).mono ?_
      rintro e w' ⟨rfl, hw⟩
      subst w'
      go_wp2_with fail
      refine (hv _ rfl).mono ?_
      clear hv
      rintro e w1 ⟨rfl, hb⟩
      have HB : Hid (Below w.heap.size w w1) := (balloc w _).trans (hb.mono (by simp))
      clear hb
      go_wp2
      refine bodyPost_ret (v := .tuple #[.int .i64 r, .bool true]) (by simp [results, Try.results21, go_sem]; try rfl) rfl ?_
      exact ⟨rfl, HB.out⟩
    · rw [if_neg (fun h => h2 h.2)] at hF
      simp only [Prod.mk.injEq] at hF
      obtain ⟨rfl, rfl⟩ := hF
      have h2' : smallB x = false := by simpa using h2
      rw [h2'] at hf
      clear h1 h2 h2'
      go_enter Try.func21, Try.ntmps21
      go_wp2_with fail
      refine (hp _ rfl).mono ?_
      clear hp
      rintro e w' ⟨rfl, hw⟩
      subst w'
      go_wp2_with fail
      refine (hf _).mono ?_
      clear hf
      rintro e w' ⟨rfl, hw⟩
      subst w'
      go_wp2
      refine bodyPost_ret (v := .tuple #[.int .i64 0, .bool false]) (by simp [results, Try.results21, go_sem]; try rfl) rfl ?_
      exact ⟨rfl, Below.refl _ _⟩
  · rw [if_neg (fun h => h1 h.1)] at hF
    simp only [Prod.mk.injEq] at hF
    obtain ⟨rfl, rfl⟩ := hF
    have h1' : polyB xs = false := by simpa using h1
    rw [h1'] at hp
    clear h1 h1' hf
    go_enter Try.func21, Try.ntmps21
    go_wp2_with fail
    refine (hp _ rfl).mono ?_
    clear hp
    rintro e w' ⟨rfl, hw⟩
    subst w'
    go_wp2
    refine bodyPost_ret (v := .tuple #[.int .i64 0, .bool false]) (by simp [results, Try.results21, go_sem]; try rfl) rfl ?_
    exact ⟨rfl, Below.refl _ _⟩

end Go.Proofs.Ytamppekadobagaa
