/- Plain facts of FnPoll and FnOpened; sealed numbers compared. -/
import Derived.Test.YtobomcmjilcnaaaK6
import Derived.ChangeKeysEq
import Derived.Laws.StructEq
namespace Go.Proofs.Ytobomcmjilcnaaa
set_option linter.unusedVariables false
set_option maxRecDepth 1000000
set_option linter.unusedSimpArgs false
open Go.RowKit

theorem Try.plainInt : Try.prog.plainKey 3 = true := by kernel_rfl

theorem run_eql_sealed (x y p q : Int) (w : World) : (binOp .eql 25 (.agg #[.int .i64 x, .int .i64 y]) (.agg #[.int .i64 p, .int .i64 q])).run Try.prog w = .ok (.bool (x == p && y == q)) w := by
  have p0 : ∀ a b : Int, (part 3 #[.int .i64 a, .int .i64 b] 0).run Try.prog w = .ok (.int .i64 a) w := fun a b => run_part_plain w Try.plainInt rfl
  have p1 : ∀ a b : Int, (part 3 #[.int .i64 a, .int .i64 b] 1).run Try.prog w = .ok (.int .i64 b) w := fun a b => run_part_plain w Try.plainInt rfl
  rw [run_eql_struct, run_equalIn_struct w 9999 25 _ _ (by kernel_rfl) (by kernel_rfl)]
  simp only [Program.fieldsOf, Try.underlying25, Op.eqFields]
  simp [p0, p1, run_equalIn_int w 9998 3 .i64 .i64 _ _ Try.underlying3]
  by_cases h1 : x = p
  · subst h1
    by_cases h2 : y = q
    · subst h2; simp
    · have : (y == q) = false := by simpa using h2
      simp [this, Result.andThen]
      exact h2
  · have : (x == p) = false := by simpa using h1
    simp [this, Result.andThen]
    exact fun e => absurd e h1

theorem run_neq_sealed (x y p q : Int) (w : World) : (binOp .neq 25 (.agg #[.int .i64 x, .int .i64 y]) (.agg #[.int .i64 p, .int .i64 q])).run Try.prog w = .ok (.bool (!(x == p && y == q))) w := by
  have p0 : ∀ a b : Int, (part 3 #[.int .i64 a, .int .i64 b] 0).run Try.prog w = .ok (.int .i64 a) w := fun a b => run_part_plain w Try.plainInt rfl
  have p1 : ∀ a b : Int, (part 3 #[.int .i64 a, .int .i64 b] 1).run Try.prog w = .ok (.int .i64 b) w := fun a b => run_part_plain w Try.plainInt rfl
  rw [run_neq_struct, run_equalIn_struct w 9999 25 _ _ (by kernel_rfl) (by kernel_rfl)]
  simp only [Program.fieldsOf, Try.underlying25, Op.eqFields]
  simp [p0, p1, run_equalIn_int w 9998 3 .i64 .i64 _ _ Try.underlying3]
  by_cases h1 : x = p
  · subst h1
    by_cases h2 : y = q
    · subst h2; simp
    · have : (y == q) = false := by simpa using h2
      simp [this, Result.andThen]
      exact h2
  · have : (x == p) = false := by simpa using h1
    simp [this, Result.andThen]
    exact fun e => absurd e h1

/-- The sum of all choices. -/
def sumL (l : List (Int × Int)) : Nat := (l.map fun q => q.2.toNat).sum
theorem sumL_snoc {l : List (Int × Int)} {k : Nat} (h : k < l.length) : sumL (l.take (k + 1)) = sumL (l.take k) + (l.getD k (0, 0)).2.toNat := by
  rw [take_snocP h, sumL, List.map_append, List.sum_append]
  simp [sumL]
theorem sumL_le : ∀ (l : List (Int × Int)), (∀ q ∈ l, 0 ≤ q.2 ∧ q.2 ≤ 3) → sumL l ≤ 3 * l.length
  | [], _ => by simp [sumL]
  | q :: l, h => by
    have h1 := sumL_le l (fun x hx => h x (by simp [hx]))
    have h2 := h q (by simp)
    simp only [sumL, List.map_cons, List.sum_cons, List.length_cons] at h1 ⊢
    omega
theorem vote_bd {p n c : Int} (h : voteB p n c = true) : 0 ≤ c ∧ c ≤ 3 := by
  unfold voteB at h
  rw [Bool.and_eq_true, Bool.and_eq_true, decide_eq_true_eq] at h
  exact h.1.1
theorem count_ok {secs ns cs : List Int} (h : countB secs ns cs = true) : pollOk secs ns cs = true := by
  unfold countB at h
  rw [Bool.and_eq_true] at h
  exact h.1
theorem pollOk_parts {secs ns cs : List Int} (h : pollOk secs ns cs = true) : secsB secs = true ∧ ns.length = cs.length ∧ ns.length ≤ 12 ∧ pollB (keyI secs) (ns.zip cs) = true := by
  unfold pollOk at h
  rw [Bool.and_eq_true, Bool.and_eq_true, Bool.and_eq_true, decide_eq_true_eq, decide_eq_true_eq] at h
  exact ⟨h.1.1.1, h.1.1.2, h.1.2, h.2⟩
/-- A poll that was taken tells the sum. -/
theorem poll_log {secs ns cs : List Int} (h : pollOk secs ns cs = true) : logB (pollM secs ns cs) 100 = true ∧ logI (pollM secs ns cs) 100 = sumL (ns.zip cs) := by
  obtain ⟨_, h2, h3, h4⟩ := pollOk_parts h
  have hm : pollM secs ns cs = pw 4 (sumL (ns.zip cs)) := poll_tells secs (ns.zip cs)
  have hl : (ns.zip cs).length ≤ 12 := by rw [List.length_zip]; omega
  have hs := sumL_le (ns.zip cs) (fun q hq => by
    unfold pollB at h4
    rw [List.all_eq_true] at h4
    exact vote_bd (h4 q hq))
  rw [hm]
  exact log_small (by omega)

end Go.Proofs.Ytobomcmjilcnaaa
