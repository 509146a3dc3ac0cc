/- The laws' own helpers of chapter 5: parts compared. -/
import Derived.Test.YtamppekadobagaaD5A
import Derived.ChangeKeysEq
import Derived.Laws.StructEq
namespace Go.Proofs.Ytamppekadobagaa
set_option linter.unusedVariables false
set_option linter.unusedSimpArgs false
open Go.RowKit

theorem Try.plainInt : Try.prog.plainKey 3 = true := by kernel_rfl

theorem run_neq_part (x y p q : Int) (w : World) : (binOp .neq 46 (.agg #[.int .i64 x, .int .i64 y]) (.agg #[.int .i64 p, .int .i64 q])).run Try.prog w = .ok (.bool (!(x == p && y == q))) w := by
  have p0 : ∀ a b : Int, (part 3 #[.int .i64 a, .int .i64 b] 0).run Try.prog w = .ok (.int .i64 a) w := fun a b => run_part_plain w Try.plainInt rfl
  have p1 : ∀ a b : Int, (part 3 #[.int .i64 a, .int .i64 b] 1).run Try.prog w = .ok (.int .i64 b) w := fun a b => run_part_plain w Try.plainInt rfl
  rw [run_neq_struct, run_equalIn_struct w 9999 46 _ _ (by kernel_rfl) (by kernel_rfl)]
  simp only [Program.fieldsOf, Try.underlying46, Op.eqFields]
  simp [p0, p1, run_equalIn_int w 9998 3 .i64 .i64 _ _ Try.underlying3]
  by_cases h1 : x = p
  · subst h1
    by_cases h2 : y = q
    · subst h2; simp
    · have : (y == q) = false := by simpa using h2
      simp [this, Result.andThen]
      exact h2
  · have : (x == p) = false := by simpa using h1
    simp [this, Result.andThen]
    exact fun e => absurd e h1

theorem sameInts_ne (ao bo : Option Addr) (n m c d : Nat) (w : World) (hnm : n ≠ m) (hn : n ≤ 140737488355328) (hm : m ≤ 140737488355328) :
    Calls Try.prog 20 #[.slice ao n c, .slice bo m d] w fun e w' => e = .returned (.bool false) ∧ w' = w := by
  have hx : ((n : Int) != (m : Int)) = true := by rw [bne_iff_ne]; omega
  go_enter Try.func20, Try.ntmps20
  go_wp2
  go_ret
  exact ⟨rfl, rfl⟩

theorem sameInts_nil (ao bo : Option Addr) (c d : Nat) (w : World) :
    Calls Try.prog 20 #[.slice ao 0 c, .slice bo 0 d] w fun e w' => e = .returned (.bool true) ∧ w' = w := by
  go_enter Try.func20, Try.ntmps20
  go_wp2
  refine wp_loop_rounds 1 ?_
  rw [rounds_succ]
  go_wp2
  go_ret
  exact ⟨rfl, rfl⟩


set_option maxHeartbeats 400000 in
theorem sameInts_at (b o n c b' o' d : Nat) (xs ys : List Int) (w : World) (hx : xs.length = n) (hy : ys.length = n) (hn : n ≤ 140737488355328)
    (hcx : ∀ j, j < n → w.cell? ⟨b, o + j, none⟩ = some (.int .i64 (xs.getD j 0))) (hcy : ∀ j, j < n → w.cell? ⟨b', o' + j, none⟩ = some (.int .i64 (ys.getD j 0))) :
    Calls Try.prog 20 #[.slice (some ⟨b, o, none⟩) n c, .slice (some ⟨b', o', none⟩) n d] w fun e w' => e = .returned (.bool (decide (xs = ys))) ∧ Below w.heap.size w w' := by
  have HX : Hid (xs.length = n) := hx
  have HY : Hid (ys.length = n) := hy
  clear hx hy
  go_enter Try.func20, Try.ntmps20
  go_wp2
  go_loopw [13] (fun i wr => ∃ k : Nat, k ≤ n ∧ i = .int .i64 k ∧ xs.take k = ys.take k ∧ Below w.heap.size w wr ∧ (∀ j, j < n → wr.cell? ⟨b, o + j, none⟩ = some (.int .i64 (xs.getD j 0))) ∧ (∀ j, j < n → wr.cell? ⟨b', o' + j, none⟩ = some (.int .i64 (ys.getD j 0)))) (fun i _ => n - (intOf i).toNat)
  case atStart => exact ⟨0, Nat.zero_le _, rfl, rfl, Below.refl _ _, hcx, hcy⟩
  case round =>
    obtain ⟨k, hk, rfl, htk, hbel, hc1, hc2⟩ := hrel
    have HT : Hid (xs.take k = ys.take k) := htk
    clear htk hcx hcy
    by_cases hlt : k < n
    · have g1 := hc1 k hlt
      have g2 := hc2 k hlt
      have h0 : (0 : Int) ≤ (k : Int) := by omega
      have hl : (k : Int) < (n : Int) := by omega
      generalize hx : xs.getD k 0 = x at g1
      generalize hy : ys.getD k 0 = y at g2
      have H1 : Hid (xs.getD k 0 = x) := hx
      have H2 : Hid (ys.getD k 0 = y) := hy
      clear hx hy
      by_cases hxy : x = y
      · subst hxy
        have ht : (x != x) = false := by simp
        have HC : Hid ((∀ j, j < n → wr.cell? ⟨b, o + j, none⟩ = some (.int .i64 (xs.getD j 0))) ∧ (∀ j, j < n → wr.cell? ⟨b', o' + j, none⟩ = some (.int .i64 (ys.getD j 0)))) := ⟨hc1, hc2⟩
        clear hc1 hc2
        go_wp2
        go_quiet (fail)
        go_wp2
        go_roundw
        case rel => exact ⟨k + 1, by omega, by go_num, take_eq_succ (by rw [HX.out]; omega) (by rw [HY.out]; omega) HT.out (H1.out.trans H2.out.symm), below_drewN hbel _, HC.out.1, HC.out.2⟩
        case measure => simp [intOf]; omega
      · have ht : (x != y) = true := by simpa using hxy
        clear hc1 hc2
        go_wp2
        go_quiet (fail)
        go_wp2
        go_ret
        refine ⟨?_, below_drewN hbel _⟩
        have : xs ≠ ys := fun e => hxy (by rw [← H1.out, ← H2.out, e])
        simp [this]
    · clear hc1 hc2
      go_wp2
      go_ret
      refine ⟨?_, hbel⟩
      have e : xs = ys := by
        have := HT.out
        rwa [List.take_of_length_le (by rw [HX.out]; omega), List.take_of_length_le (by rw [HY.out]; omega)] at this
      simp [e]

theorem sameInts_c (ao bo : Option Addr) (n m c d : Nat) (xs ys : List Int) (w : World) (hx : xs.length = n) (hy : ys.length = m) (hn : n ≤ 17592186044416) (hm : m ≤ 17592186044416) (hr : Rd w ao xs) (hs : Rd w bo ys) :
    Calls Try.prog 20 #[.slice ao n c, .slice bo m d] w fun e w' => e = .returned (.bool (decide (xs = ys))) ∧ Below w.heap.size w w' := by
  by_cases hnm : n = m
  · subst hnm
    rcases hr with rfl | ⟨b, o, rfl, hc⟩
    · simp at hx; subst hx
      have : ys = [] := List.length_eq_zero_iff.1 hy
      subst this
      refine (sameInts_nil ao bo c d w).mono ?_
      rintro e w' ⟨rfl, rfl⟩
      exact ⟨by simp, Below.refl _ _⟩
    · rcases hs with rfl | ⟨b', o', rfl, hc'⟩
      · simp at hy; subst hy
        have : xs = [] := List.length_eq_zero_iff.1 hx
        subst this
        refine (sameInts_nil _ bo c d w).mono ?_
        rintro e w' ⟨rfl, rfl⟩
        exact ⟨by simp, Below.refl _ _⟩
      · exact sameInts_at b o n c b' o' d xs ys w hx hy (by omega) (by rw [← hx]; exact hc) (by rw [← hy]; exact hc')
  · refine (sameInts_ne ao bo n m c d w hnm (by omega) (by omega)).mono ?_
    rintro e w' ⟨rfl, rfl⟩
    refine ⟨?_, Below.refl _ _⟩
    have : xs ≠ ys := fun e => hnm (by rw [← hx, ← hy, e])
    simp [this]


set_option maxHeartbeats 1000000 in
theorem numberOf_c (ao : Option Addr) (n c : Nat) (w : World) (hn : n ≤ 9223372036854775807) (h : CodeOk w w.heap.size ao n) :
    Calls Try.prog 17 #[.slice ao n c] w fun e w' => ∃ z : Int, e = .returned (.int .i64 z) ∧ 0 ≤ z ∧ z < 1000003 ∧ w' = w := by
  rcases h with h0 | ⟨b, off, rfl, hne, f, hf⟩
  · subst h0
    go_enter Try.func17, Try.ntmps17
    go_wp2
    refine wp_loop_rounds 1 ?_
    rw [rounds_succ]
    go_wp2
    go_ret
    exact ⟨0, rfl, by omega, by omega, rfl⟩
  · have HF : Hid (∀ j, j < n → w.cell? ⟨b, off + j, none⟩ = some (.int .u8 (f j)) ∧ 0 ≤ f j ∧ f j ≤ 255) := hf
    clear hf hne
    go_enter Try.func17, Try.ntmps17
    go_wp2
    go_loop [3, 8] (fun v i => ∃ (k : Nat) (z : Int), k ≤ n ∧ i = .int .i64 k ∧ v = .int .i64 z ∧ 0 ≤ z ∧ z < 1000003) (fun _ i => n - (intOf i).toNat)
    case atStart => exact ⟨0, 0, Nat.zero_le _, rfl, rfl, by omega, by omega⟩
    case round =>
      obtain ⟨k, z, hk, rfl, rfl, hz0, hz1⟩ := hrel
      by_cases hlt : k < n
      · obtain ⟨g1, g2, g3⟩ := HF.out k hlt
        generalize f k = y at g1 g2 g3
        have k0 : (0 : Int) ≤ (k : Int) := by omega
        have k1 : (k : Int) < (n : Int) := by omega
        have hb : 0 ≤ 31 * z + y ∧ 31 * z + y ≤ 40000000 := by omega
        obtain ⟨hb0, hb1⟩ := hb
        have m0 := Int.emod_nonneg (31 * z + y) (show (1000003 : Int) ≠ 0 by omega)
        have m1 := Int.emod_lt_of_pos (31 * z + y) (show (0 : Int) < 1000003 by omega)
        go_wp2
        go_round
        case rel => exact ⟨k + 1, (31 * z + y) % 1000003, by omega, by go_num, rfl, m0, m1⟩
        case measure => simp [intOf]; omega
      · go_wp2
        go_ret
        exact ⟨z, rfl, hz0, hz1, rfl⟩

theorem sameParts_nil (ao bo : Option Addr) (c d : Nat) (w : World) :
    Calls Try.prog 16 #[.slice ao 0 c, .slice bo 0 d] w fun e w' => e = .returned (.bool true) ∧ w' = w := by
  go_enter Try.func16, Try.ntmps16
  go_wp2
  refine wp_loop_rounds 1 ?_
  rw [rounds_succ]
  go_wp2
  go_ret
  exact ⟨rfl, rfl⟩

set_option maxHeartbeats 1000000 in
theorem sameParts_at (b o n c b' o' d : Nat) (l : List (Int × Int)) (w : World) (hx : l.length = n) (hn : n ≤ 140737488355328)
    (hcx : ∀ j, j < n → w.cell? ⟨b, o + j * 2, none⟩ = some (.int .i64 (l.getD j (0, 0)).1) ∧ w.cell? ⟨b, o + j * 2 + 1, none⟩ = some (.int .i64 (l.getD j (0, 0)).2))
    (hcy : ∀ j, j < n → w.cell? ⟨b', o' + j * 2, none⟩ = some (.int .i64 (l.getD j (0, 0)).1) ∧ w.cell? ⟨b', o' + j * 2 + 1, none⟩ = some (.int .i64 (l.getD j (0, 0)).2)) :
    Calls Try.prog 16 #[.slice (some ⟨b, o, none⟩) n c, .slice (some ⟨b', o', none⟩) n d] w fun e w' => e = .returned (.bool true) ∧ Below w.heap.size w w' := by
  have HCX : Hid (∀ j, j < n → w.cell? ⟨b, o + j * 2, none⟩ = some (.int .i64 (l.getD j (0, 0)).1) ∧ w.cell? ⟨b, o + j * 2 + 1, none⟩ = some (.int .i64 (l.getD j (0, 0)).2)) := hcx
  have HCY : Hid (∀ j, j < n → w.cell? ⟨b', o' + j * 2, none⟩ = some (.int .i64 (l.getD j (0, 0)).1) ∧ w.cell? ⟨b', o' + j * 2 + 1, none⟩ = some (.int .i64 (l.getD j (0, 0)).2)) := hcy
  clear hx hcx hcy
  have hnn : ((n : Int) != (n : Int)) = false := by simp
  go_enter Try.func16, Try.ntmps16
  go_wp2
  go_loopw [13] (fun i wr => ∃ k : Nat, k ≤ n ∧ i = .int .i64 k ∧ Hid (Below w.heap.size w wr)) (fun i _ => n - (intOf i).toNat)
  case atStart => exact ⟨0, Nat.zero_le _, rfl, Below.refl _ _⟩
  case round =>
    obtain ⟨k, hk, rfl, HB⟩ := hrel
    by_cases hlt : k < n
    · have h0 : (0 : Int) ≤ (k : Int) := by omega
      have hl : (k : Int) < (n : Int) := by omega
      have q1 := HCX.out k hlt
      have q2 := HCY.out k hlt
      have bx := World.block_lt_of_cell? w _ q1.1
      have bY := World.block_lt_of_cell? w _ q2.1
      have g1 : wr.cell? ⟨b, o + k * 2, none⟩ = some (.int .i64 (l.getD k (0, 0)).1) := by rw [HB.out.cell (p := ⟨b, o + k * 2, none⟩) bx]; exact q1.1
      have g2 : wr.cell? ⟨b, o + k * 2 + 1, none⟩ = some (.int .i64 (l.getD k (0, 0)).2) := by rw [HB.out.cell (p := ⟨b, o + k * 2 + 1, none⟩) bx]; exact q1.2
      have g3 : wr.cell? ⟨b', o' + k * 2, none⟩ = some (.int .i64 (l.getD k (0, 0)).1) := by rw [HB.out.cell (p := ⟨b', o' + k * 2, none⟩) bY]; exact q2.1
      have g4 : wr.cell? ⟨b', o' + k * 2 + 1, none⟩ = some (.int .i64 (l.getD k (0, 0)).2) := by rw [HB.out.cell (p := ⟨b', o' + k * 2 + 1, none⟩) bY]; exact q2.2
      have hne : ∀ wx : World, (binOp .neq 46 (.agg #[.int .i64 (l.getD k (0, 0)).1, .int .i64 (l.getD k (0, 0)).2]) (.agg #[.int .i64 (l.getD k (0, 0)).1, .int .i64 (l.getD k (0, 0)).2])).run Try.prog wx = .ok (.bool false) wx := fun wx => by rw [run_neq_part]; simp
      generalize (l.getD k (0, 0)).1 = x at *
      generalize (l.getD k (0, 0)).2 = y at *
      clear q1 q2 bx bY
      go_wp2
      go_quiet (fail)
      go_wp2
      go_roundw
      case rel => exact ⟨k + 1, by omega, by go_num, below_drewN HB.out _⟩
      case measure => simp [intOf]; omega
    · go_wp2
      go_ret
      exact ⟨rfl, HB.out⟩

/-- A list of parts held against itself. -/
theorem sameParts_c (ao bo : Option Addr) (n c d : Nat) (l : List (Int × Int)) (w : World) (hx : l.length = n) (hn : n ≤ 8796093022208) (hr : RdP w ao l) (hs : RdP w bo l) :
    Calls Try.prog 16 #[.slice ao n c, .slice bo n d] w fun e w' => e = .returned (.bool true) ∧ Below w.heap.size w w' := by
  by_cases h0 : n = 0
  · subst h0
    refine (sameParts_nil ao bo c d w).mono ?_
    rintro e w' ⟨rfl, hw⟩
    subst w'
    exact ⟨rfl, Below.refl _ _⟩
  · obtain ⟨b, o, rfl, hc⟩ := hr.at hx h0
    obtain ⟨b', o', rfl, hc'⟩ := hs.at hx h0
    exact sameParts_at b o n c b' o' d l w hx (by omega) hc hc'

end Go.Proofs.Ytamppekadobagaa
