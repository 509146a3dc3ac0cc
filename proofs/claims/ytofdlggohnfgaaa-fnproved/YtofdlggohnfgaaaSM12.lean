/- Chapter 12: lists that read the same are the same. -/
import Derived.Test.YtofdlggohnfgaaaTC12
import Derived.Test.YtofdlggohnfgaaaQ12
import Derived.Test.YtofdlggohnfgaaaD3
namespace Go.Proofs.Ytofdlggohnfgaaa
set_option linter.unusedVariables false
set_option maxRecDepth 1000000
set_option linter.unusedSimpArgs false
open Go.RowKit

theorem run_neq_st (s a b c : Int) (d : Bool) (w : World) : (binOp .neq 54 (.agg #[.int .i64 s, .int .i64 a, .int .i64 b, .int .i64 c, .bool d]) (.agg #[.int .i64 s, .int .i64 a, .int .i64 b, .int .i64 c, .bool d])).run Try.prog w = .ok (.bool false) w := by
  have p0 : ∀ (s a b c : Int) (d : Bool), (part 3 #[.int .i64 s, .int .i64 a, .int .i64 b, .int .i64 c, .bool d] 0).run Try.prog w = .ok (.int .i64 s) w := fun s a b c d => run_part_plain w Try.plainInt rfl
  have p1 := fun s a b c d => part_cl s a b c d w
  have p2 : ∀ (s a b c : Int) (d : Bool), (part 4 #[.int .i64 s, .int .i64 a, .int .i64 b, .int .i64 c, .bool d] 4).run Try.prog w = .ok (.bool d) w := fun s a b c d => run_part_plain w Try.plainBool rfl
  have e1 := equalIn_cl 9997 a b c a b c w
  rw [run_neq_struct, run_equalIn_struct w 9999 54 _ _ (by kernel_rfl) (by kernel_rfl)]
  simp only [Program.fieldsOf, Try.underlying54, Op.eqFields]
  simp [p0, p1, p2, e1, run_equalIn_int w 9998 3 .i64 .i64 _ _ Try.underlying3, run_equalIn_bool w 9998 4 _ _ Try.underlying4, Result.andThen]

theorem below_drewN {B : Nat} {w w' : World} (h : Below B w w') (k : Nat) : Below B w (w'.drewN k) := ⟨h.os, h.tape, h.output, h.size, h.block⟩

set_option maxHeartbeats 400000 in
theorem sameStatements_q (ao bo : Option Addr) (n c d : Nat) (xs : List St) (w : World) (hx : xs.length = n) (hn : n ≤ 140737488355328) (hr : RdS w ao xs) (hs : RdS w bo xs) :
    Calls Try.prog 15 #[.slice ao n c, .slice bo n d] w fun e w' => e = .returned (.bool true) ∧ ∃ q, w' = w.drewN q := by
  have HX : Hid (xs.length = n) := hx
  have HR : Hid (RdS w ao xs) := hr
  have HS : Hid (RdS w bo xs) := hs
  have hnn : ((n : Int) != (n : Int)) = false := by simp
  clear hx hr hs
  go_enter Try.func15, Try.ntmps15
  go_wp2
  go_loopw [13] (fun i wr => ∃ k q : Nat, k ≤ n ∧ i = .int .i64 k ∧ Hid (wr = w.drewN q)) (fun i _ => n - iv12 i)
  case atStart => exact ⟨0, 0, Nat.zero_le _, rfl, rfl⟩
  case round =>
    obtain ⟨k, q, hk, rfl, HW⟩ := hrel
    by_cases hlt : k < n
    · have hb : Below w.heap.size w wr := by rw [HW.out]; exact below_drewN (Below.refl _ _) q
      obtain ⟨b1, o1, rfl, g1, g2, g3, h1, h2⟩ := (HR.out.later hb).get (k := k) (by rw [HX.out]; exact hlt)
      obtain ⟨b2, o2, rfl, g4, g5, g6, h3, h4⟩ := (HS.out.later hb).get (k := k) (by rw [HX.out]; exact hlt)
      generalize xs.getD k (0, 0, 0, 0, false) = s at *
      obtain ⟨x0, x1, x2, x3, x4⟩ := s
      simp only at g1 g2 g3 h1 h2 g4 g5 g6 h3 h4
      have heq := run_neq_st x0 x1 x2 x3 x4
      have h0 : (0 : Int) ≤ (k : Int) := by omega
      have hl : (k : Int) < (n : Int) := by omega
      clear hb
      go_wp2
      go_quiet (fail)
      go_wp2
      go_roundw
      case rel => exact ⟨k + 1, q + nq, by omega, by go_num, by show _ = _; rw [HW.out, World.drewN_drewN]⟩
      case measure => simp [iv12]; omega
    · go_wp2
      go_ret
      exact ⟨rfl, q, HW.out⟩

set_option maxHeartbeats 1000000 in
theorem sameInts_b (ao bo : Option Addr) (n c d : Nat) (xs : List Int) (w : World) (hx : xs.length = n) (hn : n ≤ 140737488355328) (hr : Rd w ao xs) (hs : Rd w bo xs) :
    Calls Try.prog 24 #[.slice ao n c, .slice bo n d] w fun e w' => e = .returned (.bool true) ∧ Below w.heap.size w w' := by
  have HX : Hid (xs.length = n) := hx
  have HR : Hid (Rd w ao xs) := hr
  have HS : Hid (Rd w bo xs) := hs
  have hnn : ((n : Int) != (n : Int)) = false := by simp
  clear hx hr hs
  go_enter Try.func24, Try.ntmps24
  go_wp2
  go_loopw [13] (fun i wr => ∃ (k : Nat), k ≤ n ∧ i = .int .i64 k ∧ Hid (Below w.heap.size w wr)) (fun i _ => n - iv12 i)
  case atStart => exact ⟨0, Nat.zero_le _, rfl, Below.refl _ _⟩
  case round =>
    obtain ⟨k, hk, rfl, HB⟩ := hrel
    by_cases hlt : k < n
    · obtain ⟨b1, o1, rfl, g1⟩ := (HR.out.later HB.out).get (k := k) (by rw [HX.out]; exact hlt)
      obtain ⟨b2, o2, rfl, g5⟩ := (HS.out.later HB.out).get (k := k) (by rw [HX.out]; exact hlt)
      generalize xs.getD k 0 = x at *
      have heq : (x != x) = false := by simp
      have h0 : (0 : Int) ≤ (k : Int) := by omega
      have hl : (k : Int) < (n : Int) := by omega
      go_wp2
      go_quiet (fail)
      go_wp2
      go_roundw
      case rel => exact ⟨k + 1, by omega, by go_num, below_drewN HB.out _⟩
      case measure => simp [iv12]; omega
    · go_wp2
      go_ret
      exact ⟨rfl, HB.out⟩

end Go.Proofs.Ytofdlggohnfgaaa
