/- Chapter 16: the laws' own has; windows compared. -/
import Derived.Test.YtjpegbodhpnflaaDoorSM16
import Derived.Test.YtjpegbodhpnflaaDoorLG16
import Derived.Test.YtjpegbodhpnflaaDoorPA16
import Derived.Laws.StructEq
namespace Go.Proofs.YtjpegbodhpnflaaDoor
set_option linter.unusedVariables false
set_option maxRecDepth 1000000
set_option linter.unusedSimpArgs false
open Go.RowKit

set_option maxHeartbeats 1000000 in
theorem lhas_c (ao : Option Addr) (n c : Nat) (z : Int) (xs : List Int) (w : World) (hx : xs.length = n) (hn : n ≤ 17592186044416) (hr : Rd w ao xs) :
    Calls Tryd.prog 27 #[.slice ao n c, .int .i64 z] w fun e w' => e = .returned (.bool (decide (z ∈ xs))) ∧ w' = w := by
  have HX : Hid (xs.length = n) := hx
  have HR : Hid (Rd w ao xs) := hr
  have HF : Hid (∀ k, k < n → xs.getD k 0 = z → decide (z ∈ xs) = true) := fun k hk h => decide_eq_true (by rw [← h]; exact mem_getD 0 (by omega))
  have HE : Hid ((∀ j, j < n → xs.getD j 0 ≠ z) → decide (z ∈ xs) = false) := fun h => decide_eq_false (fun e => by
    obtain ⟨j, hj, he⟩ := List.getElem_of_mem e
    exact h j (by omega) (by simp [List.getD, hj, he]))
  generalize decide (z ∈ xs) = zb at HF HE ⊢
  clear hx hr
  go_enter Tryd.func27, Tryd.ntmps27
  go_wp2
  go_loop [9] (fun iv => ∃ (k : Nat), k ≤ n ∧ iv = .int .i64 k ∧ Hid (∀ j, j < k → xs.getD j 0 ≠ z)) (fun iv => n - (intOf iv).toNat)
  case atStart => exact ⟨0, Nat.zero_le _, rfl, fun j h => absurd h (by omega)⟩
  case round =>
    obtain ⟨k, hk, rfl, HS⟩ := hrel
    by_cases hlt : k < n
    · have hkl : k < xs.length := by rw [HX.out]; exact hlt
      obtain ⟨b, o, rfl, g1⟩ := HR.out.get hkl
      have h0 : (0 : Int) ≤ (k : Int) := by omega
      have hl : (k : Int) < (n : Int) := by omega
      by_cases he : xs.getD k 0 = z
      · have HN : Hid (zb = true) := HF.out k hlt he
        generalize xs.getD k 0 = v at g1 he
        have hb : (v == z) = true := by simpa using he
        clear hkl he
        go_wp2
        go_ret
        exact ⟨ret_bool HN.out.symm, rfl⟩
      · have HS2 : Hid (∀ j, j < k + 1 → xs.getD j 0 ≠ z) := fun j hj => by
          by_cases e : j = k
          · rw [e]; exact he
          · exact HS.out j (by omega)
        generalize xs.getD k 0 = v at g1 he
        have hb : (v == z) = false := by simpa using he
        clear hkl he
        go_wp2
        go_round
        case rel => exact ⟨k + 1, by omega, by go_num, HS2⟩
        case measure => simp [intOf]; omega
    · obtain rfl : k = n := by omega
      have HM : Hid (zb = false) := HE.out HS.out
      go_wp2
      go_ret
      exact ⟨ret_bool HM.out.symm, rfl⟩

theorem Tryd.plain16 : Tryd.prog.plainKey 3 = true := by kernel_rfl

theorem run_neq_win (t x : Int) (w : World) : (binOp .neq 26 (.agg #[.int .i64 t, .int .i64 x]) (.agg #[.int .i64 t, .int .i64 x])).run Tryd.prog w = .ok (.bool false) w := by
  have p0 : (part 3 #[.int .i64 t, .int .i64 x] 0).run Tryd.prog w = .ok (.int .i64 t) w := run_part_plain w Tryd.plain16 rfl
  have p1 : (part 3 #[.int .i64 t, .int .i64 x] 1).run Tryd.prog w = .ok (.int .i64 x) w := run_part_plain w Tryd.plain16 rfl
  rw [run_neq_struct, run_equalIn_struct w 9999 26 _ _ (by kernel_rfl) (by kernel_rfl)]
  simp only [Program.fieldsOf, Tryd.underlying26, Op.eqFields]
  simp [p0, p1, run_equalIn_int w 9998 3 .i64 .i64 _ _ Tryd.underlying3]
theorem run_eql_win (t x : Int) (w : World) : (binOp .eql 26 (.agg #[.int .i64 t, .int .i64 x]) (.agg #[.int .i64 t, .int .i64 x])).run Tryd.prog w = .ok (.bool true) w := by
  have p0 : (part 3 #[.int .i64 t, .int .i64 x] 0).run Tryd.prog w = .ok (.int .i64 t) w := run_part_plain w Tryd.plain16 rfl
  have p1 : (part 3 #[.int .i64 t, .int .i64 x] 1).run Tryd.prog w = .ok (.int .i64 x) w := run_part_plain w Tryd.plain16 rfl
  rw [run_eql_struct, run_equalIn_struct w 9999 26 _ _ (by kernel_rfl) (by kernel_rfl)]
  simp only [Program.fieldsOf, Tryd.underlying26, Op.eqFields]
  simp [p0, p1, run_equalIn_int w 9998 3 .i64 .i64 _ _ Tryd.underlying3]

end Go.Proofs.YtjpegbodhpnflaaDoor
