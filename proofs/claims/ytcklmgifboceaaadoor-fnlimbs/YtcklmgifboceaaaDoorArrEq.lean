/- Two rows of limbs held against each other by '==' and '!='. -/
import Derived.Test.YtcklmgifboceaaaDoorArr
import Derived.ChangeKeysEq
import Derived.Laws.StructEq
namespace Go.Proofs.YtcklmgifboceaaaDoor
set_option linter.unusedVariables false
set_option maxRecDepth 1000000
set_option linter.unusedSimpArgs false
open Go.RowKit

theorem Tryd.cellsOfInt : Tryd.prog.cellsOf 3 = 1 := by kernel_rfl
theorem Tryd.plainInt : Tryd.prog.plainKey 3 = true := by kernel_rfl

theorem items_step (d j : Nat) (is : List Nat) (xs ys : Array Value) (a b : Int) (w : World) (hx : xs[j]? = some (.int .i64 a)) (hy : ys[j]? = some (.int .i64 b)) :
    (Op.eqItems (d + 1) 3 1 xs ys (j :: is)).run Tryd.prog w = if a = b then (Op.eqItems (d + 1) 3 1 xs ys is).run Tryd.prog w else .ok false w := by
  simp only [Op.eqItems, Nat.mul_one, Sem.run_bind, run_part_plain w Tryd.plainInt hx, run_part_plain w Tryd.plainInt hy, Result.andThen_ok, run_equalIn_int w d 3 .i64 .i64 a b Tryd.underlying3]
  by_cases h : a = b
  · subst h; simp
  · have : (a == b) = false := by simpa using h
    simp [this, h]

theorem run_equal_row (d : Nat) (w : World) (a0 a1 a2 a3 a4 a5 b0 b1 b2 b3 b4 b5 : Int) :
    (Op.equalIn (d + 2) 57 (.agg #[.int .i64 a0, .int .i64 a1, .int .i64 a2, .int .i64 a3, .int .i64 a4, .int .i64 a5]) (.agg #[.int .i64 b0, .int .i64 b1, .int .i64 b2, .int .i64 b3, .int .i64 b4, .int .i64 b5])).run Tryd.prog w = .ok (decide ([a0, a1, a2, a3, a4, a5] = [b0, b1, b2, b3, b4, b5])) w := by
  obtain ⟨i, hi⟩ := info_of_underlying Tryd.underlying3
  rw [run_equalIn_array w (d + 1) _ _ Tryd.underlying57 hi, Tryd.cellsOfInt]
  have e : List.range 6 = [0, 1, 2, 3, 4, 5] := by decide
  rw [e]
  rw [items_step d 0 _ _ _ a0 b0 w rfl rfl, items_step d 1 _ _ _ a1 b1 w rfl rfl, items_step d 2 _ _ _ a2 b2 w rfl rfl, items_step d 3 _ _ _ a3 b3 w rfl rfl, items_step d 4 _ _ _ a4 b4 w rfl rfl, items_step d 5 _ _ _ a5 b5 w rfl rfl]
  by_cases h0 : a0 = b0
  · by_cases h1 : a1 = b1
    · by_cases h2 : a2 = b2
      · by_cases h3 : a3 = b3
        · by_cases h4 : a4 = b4
          · by_cases h5 : a5 = b5
            · simp [h0, h1, h2, h3, h4, h5, Op.eqItems]
            · simp [h0, h1, h2, h3, h4, h5]
          · simp [h0, h1, h2, h3, h4]
        · simp [h0, h1, h2, h3]
      · simp [h0, h1, h2]
    · simp [h0, h1]
  · simp [h0]

theorem run_eql_row (w : World) (a0 a1 a2 a3 a4 a5 b0 b1 b2 b3 b4 b5 : Int) :
    (binOp .eql 57 (.agg #[.int .i64 a0, .int .i64 a1, .int .i64 a2, .int .i64 a3, .int .i64 a4, .int .i64 a5]) (.agg #[.int .i64 b0, .int .i64 b1, .int .i64 b2, .int .i64 b3, .int .i64 b4, .int .i64 b5])).run Tryd.prog w = .ok (.bool (decide ([a0, a1, a2, a3, a4, a5] = [b0, b1, b2, b3, b4, b5]))) w := by
  rw [run_eql_struct, run_equal_row 9998]; rfl

theorem run_neq_row (w : World) (a0 a1 a2 a3 a4 a5 b0 b1 b2 b3 b4 b5 : Int) :
    (binOp .neq 57 (.agg #[.int .i64 a0, .int .i64 a1, .int .i64 a2, .int .i64 a3, .int .i64 a4, .int .i64 a5]) (.agg #[.int .i64 b0, .int .i64 b1, .int .i64 b2, .int .i64 b3, .int .i64 b4, .int .i64 b5])).run Tryd.prog w = .ok (.bool (!decide ([a0, a1, a2, a3, a4, a5] = [b0, b1, b2, b3, b4, b5]))) w := by
  rw [run_neq_struct, run_equal_row 9998]; rfl

end Go.Proofs.YtcklmgifboceaaaDoor
