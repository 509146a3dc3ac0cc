/- Two lists that read the same: sameBools, sameTrace (sameTexts: SM4). Structs of chapter 10 compared. -/
import Derived.Test.YteopaocomfepfaaAP10
import Derived.ChangeKeysEq
import Derived.Laws.StructEq
namespace Go.Proofs.Yteopaocomfepfaa
set_option linter.unusedVariables false
set_option maxRecDepth 1000000
set_option linter.unusedSimpArgs false
open Go.RowKit

theorem Try.plainInt : Try.prog.plainKey 3 = true := by kernel_rfl
theorem Try.plainStr : Try.prog.plainKey 9 = true := by kernel_rfl

theorem rdB_get {w : World} {ao : Option Addr} {xs : List Bool} (h : RdB w ao xs) {k : Nat} (hk : k < xs.length) : ∃ b o, ao = some ⟨b, o, none⟩ ∧ w.cell? ⟨b, o + k, none⟩ = some (.bool (xs.getD k false)) := by
  rcases h with rfl | ⟨b, o, rfl, hc⟩
  · simp at hk
  · exact ⟨b, o, rfl, hc k hk⟩

theorem run_neq_emit (x y z : Int) (w : World) : (binOp .neq 52 (.agg #[.int .i64 x, .int .i64 y, .int .i64 z]) (.agg #[.int .i64 x, .int .i64 y, .int .i64 z])).run Try.prog w = .ok (.bool false) w := by
  have p0 : (part 3 #[.int .i64 x, .int .i64 y, .int .i64 z] 0).run Try.prog w = .ok (.int .i64 x) w := run_part_plain w Try.plainInt rfl
  have p1 : (part 3 #[.int .i64 x, .int .i64 y, .int .i64 z] 1).run Try.prog w = .ok (.int .i64 y) w := run_part_plain w Try.plainInt rfl
  have p2 : (part 3 #[.int .i64 x, .int .i64 y, .int .i64 z] 2).run Try.prog w = .ok (.int .i64 z) w := run_part_plain w Try.plainInt rfl
  rw [run_neq_struct, run_equalIn_struct w 9999 52 _ _ (by kernel_rfl) (by kernel_rfl)]
  simp only [Program.fieldsOf, Try.underlying52, Op.eqFields]
  simp [p0, p1, p2, run_equalIn_int w 9998 3 .i64 .i64 _ _ Try.underlying3]

theorem run_neq_step (x : Int) (s : ByteArray) (w : World) : (binOp .neq 39 (.agg #[.int .i64 x, .string s]) (.agg #[.int .i64 x, .string s])).run Try.prog w = .ok (.bool false) w := by
  have p0 : (part 3 #[.int .i64 x, .string s] 0).run Try.prog w = .ok (.int .i64 x) w := run_part_plain w Try.plainInt rfl
  have p1 : (part 9 #[.int .i64 x, .string s] 1).run Try.prog w = .ok (.string s) w := run_part_plain w Try.plainStr rfl
  rw [run_neq_struct, run_equalIn_struct w 9999 39 _ _ (by kernel_rfl) (by kernel_rfl)]
  simp only [Program.fieldsOf, Try.underlying39, Op.eqFields]
  simp [p0, p1, run_equalIn_int w 9998 3 .i64 .i64 _ _ Try.underlying3, run_equalIn_string w 9998 9 _ _ Try.underlying9]

set_option maxHeartbeats 400000 in
theorem sameBools_q (ao bo : Option Addr) (n c d : Nat) (xs : List Bool) (w : World) (hx : xs.length = n) (hn : n ≤ 140737488355328) (hr : RdB w ao xs) (hs : RdB w bo xs) :
    Calls Try.prog 17 #[.slice ao n c, .slice bo n d] w fun e w' => e = .returned (.bool true) ∧ ∃ q, w' = w.drewN q := by
  have HX : Hid (xs.length = n) := hx
  have HR : Hid (RdB w ao xs) := hr
  have HS : Hid (RdB w bo xs) := hs
  have hnn : ((n : Int) != (n : Int)) = false := by simp
  clear hx hr hs
  go_enter Try.func17, Try.ntmps17
  go_wp2
  go_loopw [13] (fun i wr => ∃ k q : Nat, k ≤ n ∧ i = .int .i64 k ∧ Hid (wr = w.drewN q)) (fun i _ => n - (intOf i).toNat)
  case atStart => exact ⟨0, 0, Nat.zero_le _, rfl, rfl⟩
  case round =>
    obtain ⟨k, q, hk, rfl, HW⟩ := hrel
    by_cases hlt : k < n
    · have hb : Below w.heap.size w wr := by rw [HW.out]; exact below_drewN (Below.refl _ _) q
      obtain ⟨b1, o1, rfl, g1⟩ := rdB_get (HR.out.later hb) (k := k) (by rw [HX.out]; exact hlt)
      obtain ⟨b2, o2, rfl, g2⟩ := rdB_get (HS.out.later hb) (k := k) (by rw [HX.out]; exact hlt)
      generalize xs.getD k false = x at g1 g2
      have ht : (x != x) = false := by simp
      have h0 : (0 : Int) ≤ (k : Int) := by omega
      have hl : (k : Int) < (n : Int) := by omega
      clear hb
      go_wp2
      go_quiet (fail)
      go_wp2
      go_roundw
      case rel => exact ⟨k + 1, q + nq, by omega, by go_num, by show _ = _; rw [HW.out, World.drewN_drewN]⟩
      case measure => simp [intOf]; omega
    · go_wp2
      go_ret
      exact ⟨rfl, q, HW.out⟩

set_option maxHeartbeats 400000 in
theorem sameTrace_q (ao bo : Option Addr) (n c d : Nat) (xs : List (Int × Int × Int)) (w : World) (hx : xs.length = n) (hn : n ≤ 140737488355328) (hr : RdE w ao xs) (hs : RdE w bo xs) :
    Calls Try.prog 15 #[.slice ao n c, .slice bo n d] w fun e w' => e = .returned (.bool true) ∧ ∃ q, w' = w.drewN q := by
  have HX : Hid (xs.length = n) := hx
  have HR : Hid (RdE w ao xs) := hr
  have HS : Hid (RdE w bo xs) := hs
  have hnn : ((n : Int) != (n : Int)) = false := by simp
  clear hx hr hs
  go_enter Try.func15, Try.ntmps15
  go_wp2
  go_loopw [13] (fun i wr => ∃ k q : Nat, k ≤ n ∧ i = .int .i64 k ∧ Hid (wr = w.drewN q)) (fun i _ => n - (intOf i).toNat)
  case atStart => exact ⟨0, 0, Nat.zero_le _, rfl, rfl⟩
  case round =>
    obtain ⟨k, q, hk, rfl, HW⟩ := hrel
    by_cases hlt : k < n
    · have hb : Below w.heap.size w wr := by rw [HW.out]; exact below_drewN (Below.refl _ _) q
      obtain ⟨b1, o1, rfl, g1, g2, g3⟩ := (HR.out.later hb).get (k := k) (by rw [HX.out]; exact hlt)
      obtain ⟨b2, o2, rfl, g4, g5, g6⟩ := (HS.out.later hb).get (k := k) (by rw [HX.out]; exact hlt)
      have heq := run_neq_emit (xs.getD k (0, 0, 0)).1 (xs.getD k (0, 0, 0)).2.1 (xs.getD k (0, 0, 0)).2.2
      generalize (xs.getD k (0, 0, 0)).1 = x at *
      generalize (xs.getD k (0, 0, 0)).2.1 = y at *
      generalize (xs.getD k (0, 0, 0)).2.2 = z at *
      have h0 : (0 : Int) ≤ (k : Int) := by omega
      have hl : (k : Int) < (n : Int) := by omega
      clear hb
      go_wp2
      go_quiet (fail)
      go_wp2
      go_roundw
      case rel => exact ⟨k + 1, q + nq, by omega, by go_num, by show _ = _; rw [HW.out, World.drewN_drewN]⟩
      case measure => simp [intOf]; omega
    · go_wp2
      go_ret
      exact ⟨rfl, q, HW.out⟩

end Go.Proofs.Yteopaocomfepfaa
