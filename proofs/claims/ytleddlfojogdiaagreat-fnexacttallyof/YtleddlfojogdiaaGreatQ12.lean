/- Chapter 12: claims and statements compared. -/
import Derived.Test.YtleddlfojogdiaaGreatP12
import Derived.Test.YtleddlfojogdiaaGreatS12
import Derived.ChangeKeysEq
namespace Go.Proofs.YtleddlfojogdiaaGreat
set_option linter.unusedVariables false
set_option maxRecDepth 1000000
set_option linter.unusedSimpArgs false
open Go.RowKit

theorem Tryz.plainInt : Tryz.prog.plainKey 3 = true := by kernel_rfl

theorem Tryz.plainBool : Tryz.prog.plainKey 4 = true := by kernel_rfl

theorem equalIn_cl (k : Nat) (a b c p q r : Int) (w : World) : (Op.equalIn (k + 2) 32 (.agg #[.int .i64 a, .int .i64 b, .int .i64 c]) (.agg #[.int .i64 p, .int .i64 q, .int .i64 r])).run Tryz.prog w = .ok (decide ((a, b, c) = (p, q, r))) w := by
  have p0 : ∀ a b c : Int, (part 3 #[.int .i64 a, .int .i64 b, .int .i64 c] 0).run Tryz.prog w = .ok (.int .i64 a) w := fun a b c => run_part_plain w Tryz.plainInt rfl
  have p1 : ∀ a b c : Int, (part 3 #[.int .i64 a, .int .i64 b, .int .i64 c] 1).run Tryz.prog w = .ok (.int .i64 b) w := fun a b c => run_part_plain w Tryz.plainInt rfl
  have p2 : ∀ a b c : Int, (part 3 #[.int .i64 a, .int .i64 b, .int .i64 c] 2).run Tryz.prog w = .ok (.int .i64 c) w := fun a b c => run_part_plain w Tryz.plainInt rfl
  rw [run_equalIn_struct w (k + 1) 32 _ _ (by kernel_rfl) (by kernel_rfl)]
  simp only [Program.fieldsOf, Tryz.underlying32, Op.eqFields]
  simp [p0, p1, p2, run_equalIn_int w k 3 .i64 .i64 _ _ Tryz.underlying3]
  by_cases h1 : a = p
  · subst h1
    by_cases h2 : b = q
    · subst h2
      by_cases h3 : c = r
      · subst h3; simp
      · have : (c == r) = false := by simpa using h3
        simp [this, h3, Result.andThen]
    · have : (b == q) = false := by simpa using h2
      simp [this, h2, Result.andThen]
  · have : (a == p) = false := by simpa using h1
    simp [this, h1, Result.andThen]

theorem run_eql_cl (a b c p q r : Int) (w : World) : (binOp .eql 32 (.agg #[.int .i64 a, .int .i64 b, .int .i64 c]) (.agg #[.int .i64 p, .int .i64 q, .int .i64 r])).run Tryz.prog w = .ok (.bool (decide ((a, b, c) = (p, q, r)))) w := by
  rw [run_eql_struct, equalIn_cl 9998 a b c p q r w]
  rfl

theorem run_neq_cl (a b c p q r : Int) (w : World) : (binOp .neq 32 (.agg #[.int .i64 a, .int .i64 b, .int .i64 c]) (.agg #[.int .i64 p, .int .i64 q, .int .i64 r])).run Tryz.prog w = .ok (.bool (!decide ((a, b, c) = (p, q, r)))) w := by
  rw [run_neq_struct, equalIn_cl 9998 a b c p q r w]
  rfl

theorem part_cl (s a b c : Int) (d : Bool) (w : World) : (part 32 #[.int .i64 s, .int .i64 a, .int .i64 b, .int .i64 c, .bool d] 1).run Tryz.prog w = .ok (.agg #[.int .i64 a, .int .i64 b, .int .i64 c]) w := by
  have h1 : (isAgg 32).run Tryz.prog w = .ok true w := by kernel_rfl
  have h2 : (sizeOf 32).run Tryz.prog w = .ok 3 w := by kernel_rfl
  unfold part
  simp [h1, h2]

theorem run_eql_st (s a b c : Int) (d : Bool) (t p q r : Int) (e : Bool) (w : World) : (binOp .eql 34 (.agg #[.int .i64 s, .int .i64 a, .int .i64 b, .int .i64 c, .bool d]) (.agg #[.int .i64 t, .int .i64 p, .int .i64 q, .int .i64 r, .bool e])).run Tryz.prog w = .ok (.bool (decide ((s, a, b, c, d) = (t, p, q, r, e)))) w := by
  have p0 : ∀ (s a b c : Int) (d : Bool), (part 3 #[.int .i64 s, .int .i64 a, .int .i64 b, .int .i64 c, .bool d] 0).run Tryz.prog w = .ok (.int .i64 s) w := fun s a b c d => run_part_plain w Tryz.plainInt rfl
  have p1 := fun s a b c d => part_cl s a b c d w
  have p2 : ∀ (s a b c : Int) (d : Bool), (part 4 #[.int .i64 s, .int .i64 a, .int .i64 b, .int .i64 c, .bool d] 4).run Tryz.prog w = .ok (.bool d) w := fun s a b c d => run_part_plain w Tryz.plainBool rfl
  have e1 := equalIn_cl 9997 a b c p q r w
  rw [run_eql_struct, run_equalIn_struct w 9999 34 _ _ (by kernel_rfl) (by kernel_rfl)]
  simp only [Program.fieldsOf, Tryz.underlying34, Op.eqFields]
  simp [p0, p1, p2, e1, run_equalIn_int w 9998 3 .i64 .i64 _ _ Tryz.underlying3, run_equalIn_bool w 9998 4 _ _ Tryz.underlying4]
  by_cases h1 : s = t
  · subst h1
    by_cases h2 : (a, b, c) = (p, q, r)
    · simp only [Prod.mk.injEq] at h2
      obtain ⟨rfl, rfl, rfl⟩ := h2
      cases d <;> cases e <;> simp [Result.andThen]
    · have h3 : ¬ (a = p ∧ b = q ∧ c = r ∧ d = e) := fun h => h2 (by rw [h.1, h.2.1, h.2.2.1])
      simp only [Prod.mk.injEq] at h2
      simp [h2, h3, Result.andThen]
      rw [if_pos (fun x1 x2 x3 => h2 ⟨x1, x2, x3⟩)]
      by_cases x1 : a = p
      · by_cases x2 : b = q
        · have x3 : ¬ c = r := fun x3 => h2 ⟨x1, x2, x3⟩
          simp [x3]
        · simp [x2]
      · simp [x1]
  · have : (s == t) = false := by simpa using h1
    simp [this, h1, Result.andThen]

end Go.Proofs.YtleddlfojogdiaaGreat
