/- Contracts of slices.Index and slices.Contains, over bools and over ints. -/
import Derived.Test.YtjdfpjeeipbghaaB3B
namespace Go.Proofs.Ytjdfpjeeipbghaa
set_option linter.unusedVariables false
set_option linter.unusedSimpArgs false
open Go.RowKit

theorem Bool_getD_mem {xs : List Bool} {j : Nat} (h : j < xs.length) : xs.getD j false ∈ xs := by
  simp only [List.getD, List.getElem?_eq_getElem h, Option.getD_some]; exact List.getElem_mem _
theorem Bool_mem_getD {xs : List Bool} {v : Bool} (h : v ∈ xs) : ∃ j, j < xs.length ∧ xs.getD j false = v := by
  obtain ⟨j, hj, rfl⟩ := List.getElem_of_mem h
  exact ⟨j, hj, by simp [List.getD, hj]⟩

set_option maxHeartbeats 1000000 in
theorem indexBool_at (b o n c : Nat) (xs : List Bool) (v : Bool) (w : World) (hx : xs.length = n) (hn : n ≤ 17592186044416)
    (hc : ∀ j, j < n → w.cell? ⟨b, o + j, none⟩ = some (.bool (xs.getD j false))) :
    Calls Try.prog 73 #[.slice (some ⟨b, o, none⟩) n c, .bool v] w fun e w' => ∃ z : Int, e = .returned (.int .i64 z) ∧ (0 ≤ z ↔ v ∈ xs) ∧ w' = w := by
  have HX : Hid (xs.length = n) := hx
  have HC : Hid (∀ j, j < n → w.cell? ⟨b, o + j, none⟩ = some (.bool (xs.getD j false))) := hc
  clear hx hc
  go_enter Try.func73, Try.ntmps73
  go_wp2
  go_loop [8] (fun i => ∃ k : Nat, k ≤ n ∧ i = .int .i64 k ∧ Hid (∀ j, j < k → xs.getD j false ≠ v)) (fun i => n - (intOf i).toNat)
  case atStart => exact ⟨0, Nat.zero_le _, rfl, fun j h => absurd h (by omega)⟩
  case round =>
    obtain ⟨k, hk, rfl, hall⟩ := hrel
    by_cases hlt : k < n
    · have g1 := HC.out k hlt
      have k0 : (0 : Int) ≤ (k : Int) := by omega
      have k1 : (k : Int) < (n : Int) := by omega
      by_cases he : xs.getD k false = v
      · have HM : Hid (v ∈ xs) := by show v ∈ xs; rw [← he]; exact Bool_getD_mem (by rw [HX.out]; exact hlt)
        rw [he] at g1
        clear he hall
        cases v
        all_goals go_wp2
        all_goals go_ret
        all_goals exact ⟨k, rfl, ⟨fun _ => HM.out, fun _ => k0⟩, rfl⟩
      · have HN : Hid (∀ j, j < k + 1 → xs.getD j false ≠ v) := fun j hj => by
          by_cases e : j = k
          · subst e; exact he
          · exact hall.out j (by omega)
        generalize xs.getD k false = y at g1 he
        clear hall
        cases v <;> cases y <;> first | exact absurd rfl he | skip
        all_goals go_wp2
        all_goals go_round
        all_goals first | (case rel => exact ⟨k + 1, by omega, by go_num, HN⟩) | skip
        all_goals (simp [intOf]; omega)
    · have HM : Hid (¬ v ∈ xs) := fun h => by
        obtain ⟨j, hj, e⟩ := Bool_mem_getD h
        exact hall.out j (by rw [HX.out] at hj; omega) e
      clear hall
      go_wp2
      go_ret
      exact ⟨-1, rfl, ⟨fun h => absurd h (by omega), fun h => absurd h HM.out⟩, rfl⟩

theorem indexBool_nil (ao : Option Addr) (c : Nat) (v : Bool) (w : World) :
    Calls Try.prog 73 #[.slice ao 0 c, .bool v] w fun e w' => e = .returned (.int .i64 (-1)) ∧ w' = w := by
  go_enter Try.func73, Try.ntmps73
  go_wp2
  refine wp_loop_rounds 1 ?_
  rw [rounds_succ]
  go_wp2
  go_ret
  exact ⟨rfl, rfl⟩

theorem indexBool_c (ao : Option Addr) (n c : Nat) (xs : List Bool) (v : Bool) (w : World) (hx : xs.length = n) (hn : n ≤ 17592186044416) (hr : RdB w ao xs) :
    Calls Try.prog 73 #[.slice ao n c, .bool v] w fun e w' => ∃ z : Int, e = .returned (.int .i64 z) ∧ (0 ≤ z ↔ v ∈ xs) ∧ w' = w := by
  by_cases h0 : n = 0
  · subst h0
    have he : xs = [] := List.length_eq_zero_iff.1 hx
    subst he
    refine (indexBool_nil ao c v w).mono ?_
    rintro e w' ⟨rfl, hw⟩
    exact ⟨-1, rfl, ⟨fun h => absurd h (by omega), fun h => by cases h⟩, hw⟩
  · obtain ⟨b, o, rfl, hc⟩ := hr.at hx (by omega)
    exact indexBool_at b o n c xs v w hx hn hc

theorem containsBool_c (ao : Option Addr) (n c : Nat) (xs : List Bool) (v : Bool) (w : World) (hx : xs.length = n) (hn : n ≤ 17592186044416) (hr : RdB w ao xs) :
    Calls Try.prog 66 #[.slice ao n c, .bool v] w fun e w' => e = .returned (.bool (decide (v ∈ xs))) ∧ w' = w := by
  have HQ : Hid (Calls Try.prog 73 #[.slice ao n c, .bool v] w fun e w' => ∃ z : Int, e = .returned (.int .i64 z) ∧ (0 ≤ z ↔ v ∈ xs) ∧ w' = w) := indexBool_c ao n c xs v w hx hn hr
  clear hr hx
  go_enter Try.func66, Try.ntmps66
  go_wp2_with (go_at_call 73; refine HQ.out.mono ?_; rintro e w' ⟨z, rfl, hz, hw⟩; subst w'; have HZ : Hid (0 ≤ z ↔ v ∈ xs) := hz; clear hz HQ)
  go_ret
  exact ⟨ret_bool (decide_eq_decide.2 HZ.out), rfl⟩

theorem Int_getD_mem {xs : List Int} {j : Nat} (h : j < xs.length) : xs.getD j 0 ∈ xs := by
  simp only [List.getD, List.getElem?_eq_getElem h, Option.getD_some]; exact List.getElem_mem _
theorem Int_mem_getD {xs : List Int} {v : Int} (h : v ∈ xs) : ∃ j, j < xs.length ∧ xs.getD j 0 = v := by
  obtain ⟨j, hj, rfl⟩ := List.getElem_of_mem h
  exact ⟨j, hj, by simp [List.getD, hj]⟩

set_option maxHeartbeats 1000000 in
theorem indexInt_at (b o n c : Nat) (xs : List Int) (v : Int) (w : World) (hx : xs.length = n) (hn : n ≤ 17592186044416)
    (hc : ∀ j, j < n → w.cell? ⟨b, o + j, none⟩ = some (.int .i64 (xs.getD j 0))) :
    Calls Try.prog 75 #[.slice (some ⟨b, o, none⟩) n c, .int .i64 v] w fun e w' => ∃ z : Int, e = .returned (.int .i64 z) ∧ (0 ≤ z ↔ v ∈ xs) ∧ w' = w := by
  have HX : Hid (xs.length = n) := hx
  have HC : Hid (∀ j, j < n → w.cell? ⟨b, o + j, none⟩ = some (.int .i64 (xs.getD j 0))) := hc
  clear hx hc
  go_enter Try.func75, Try.ntmps75
  go_wp2
  go_loop [8] (fun i => ∃ k : Nat, k ≤ n ∧ i = .int .i64 k ∧ Hid (∀ j, j < k → xs.getD j 0 ≠ v)) (fun i => n - (intOf i).toNat)
  case atStart => exact ⟨0, Nat.zero_le _, rfl, fun j h => absurd h (by omega)⟩
  case round =>
    obtain ⟨k, hk, rfl, hall⟩ := hrel
    by_cases hlt : k < n
    · have g1 := HC.out k hlt
      have k0 : (0 : Int) ≤ (k : Int) := by omega
      have k1 : (k : Int) < (n : Int) := by omega
      by_cases he : xs.getD k 0 = v
      · have HM : Hid (v ∈ xs) := by show v ∈ xs; rw [← he]; exact Int_getD_mem (by rw [HX.out]; exact hlt)
        rw [he] at g1
        clear he hall
        skip
        all_goals go_wp2
        all_goals go_ret
        all_goals exact ⟨k, rfl, ⟨fun _ => HM.out, fun _ => k0⟩, rfl⟩
      · have HN : Hid (∀ j, j < k + 1 → xs.getD j 0 ≠ v) := fun j hj => by
          by_cases e : j = k
          · subst e; exact he
          · exact hall.out j (by omega)
        generalize xs.getD k 0 = y at g1 he
        clear hall
        have hb : (v == y) = false := by rw [beq_eq_false_iff_ne]; exact fun h => he h.symm
        all_goals go_wp2
        all_goals go_round
        all_goals first | (case rel => exact ⟨k + 1, by omega, by go_num, HN⟩) | skip
        all_goals (simp [intOf]; omega)
    · have HM : Hid (¬ v ∈ xs) := fun h => by
        obtain ⟨j, hj, e⟩ := Int_mem_getD h
        exact hall.out j (by rw [HX.out] at hj; omega) e
      clear hall
      go_wp2
      go_ret
      exact ⟨-1, rfl, ⟨fun h => absurd h (by omega), fun h => absurd h HM.out⟩, rfl⟩

theorem indexInt_nil (ao : Option Addr) (c : Nat) (v : Int) (w : World) :
    Calls Try.prog 75 #[.slice ao 0 c, .int .i64 v] w fun e w' => e = .returned (.int .i64 (-1)) ∧ w' = w := by
  go_enter Try.func75, Try.ntmps75
  go_wp2
  refine wp_loop_rounds 1 ?_
  rw [rounds_succ]
  go_wp2
  go_ret
  exact ⟨rfl, rfl⟩

theorem indexInt_c (ao : Option Addr) (n c : Nat) (xs : List Int) (v : Int) (w : World) (hx : xs.length = n) (hn : n ≤ 17592186044416) (hr : Rd w ao xs) :
    Calls Try.prog 75 #[.slice ao n c, .int .i64 v] w fun e w' => ∃ z : Int, e = .returned (.int .i64 z) ∧ (0 ≤ z ↔ v ∈ xs) ∧ w' = w := by
  by_cases h0 : n = 0
  · subst h0
    have he : xs = [] := List.length_eq_zero_iff.1 hx
    subst he
    refine (indexInt_nil ao c v w).mono ?_
    rintro e w' ⟨rfl, hw⟩
    exact ⟨-1, rfl, ⟨fun h => absurd h (by omega), fun h => by cases h⟩, hw⟩
  · obtain ⟨b, o, rfl, hc⟩ := hr.at hx (by omega)
    exact indexInt_at b o n c xs v w hx hn hc

theorem containsInt_c (ao : Option Addr) (n c : Nat) (xs : List Int) (v : Int) (w : World) (hx : xs.length = n) (hn : n ≤ 17592186044416) (hr : Rd w ao xs) :
    Calls Try.prog 74 #[.slice ao n c, .int .i64 v] w fun e w' => e = .returned (.bool (decide (v ∈ xs))) ∧ w' = w := by
  have HQ : Hid (Calls Try.prog 75 #[.slice ao n c, .int .i64 v] w fun e w' => ∃ z : Int, e = .returned (.int .i64 z) ∧ (0 ≤ z ↔ v ∈ xs) ∧ w' = w) := indexInt_c ao n c xs v w hx hn hr
  clear hr hx
  go_enter Try.func74, Try.ntmps74
  go_wp2_with (go_at_call 75; refine HQ.out.mono ?_; rintro e w' ⟨z, rfl, hz, hw⟩; subst w'; have HZ : Hid (0 ≤ z ↔ v ∈ xs) := hz; clear hz HQ)
  go_ret
  exact ⟨ret_bool (decide_eq_decide.2 HZ.out), rfl⟩

end Go.Proofs.Ytjdfpjeeipbghaa
