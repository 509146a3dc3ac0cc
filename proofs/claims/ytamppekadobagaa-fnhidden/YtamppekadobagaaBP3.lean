/- Chapter 5: lists of parts marked, and the marks held. -/
import Derived.Test.YtamppekadobagaaBP2
namespace Go.Proofs.Ytamppekadobagaa
set_option linter.unusedVariables false
set_option linter.unusedSimpArgs false
open Go.RowKit

/-- The marks of a row of n parts. -/
def marksP (k : Int) (n : Nat) : List (Int × Int) := (List.range n).map (fun j : Nat => (k + 2 * (j : Int), k + 2 * (j : Int) + 1))
theorem marksP_length (k : Int) (n : Nat) : (marksP k n).length = n := by simp [marksP]
theorem marksP_getD (k : Int) (n j : Nat) (h : j < n) : (marksP k n).getD j (0, 0) = (k + 2 * j, k + 2 * j + 1) := by simp [marksP, List.getD, h]
theorem marksP_of (k : Int) (n : Nat) (ys : List (Int × Int)) (hl : ys.length = n) (h : ∀ j : Nat, j < n → ys.getD j (0, 0) = (k + 2 * j, k + 2 * j + 1)) : ys = marksP k n := by
  refine List.ext_getElem (by rw [hl, marksP_length]) fun j h1 h2 => ?_
  have e1 := h j (by omega)
  have e2 := marksP_getD k n j (by omega)
  simp [List.getD, h1] at e1
  simp [List.getD, h2] at e2
  rw [e1, e2]

theorem grown_trans {a b c : World} {r : Option Nat} (h1 : a.grownBy b r) (h2 : b.grownBy c r) : a.grownBy c r :=
  ⟨h2.os.trans h1.os, h2.tape.trans h1.tape, h2.output.trans h1.output, Nat.le_trans h1.size h2.size, fun q hq hne => (h2.block q (Nat.lt_of_lt_of_le hq h1.size) hne).trans (h1.block q hq hne)⟩

set_option maxHeartbeats 1000000 in
theorem markPartS_at (g n c : Nat) (k : Int) (base : Nat) (xs : List (Int × Int)) (w : World) (hn : n ≤ 8796093022208) (hx : xs.length = n) (h0 : 0 ≤ k) (h1 : k ≤ 17592186044416) (ho : OwnP w base (.slice (some ⟨g, 0, none⟩) n c) xs) :
    Calls Try.prog 44 #[.slice (some ⟨g, 0, none⟩) n c, .int .i64 k] w fun e w' => e = .returned (.int .i64 (k + 2 * n)) ∧ OwnP w' base (.slice (some ⟨g, 0, none⟩) n c) (marksP k n) ∧ w.grownBy w' (some g) := by
  have HO : Hid (∃ ys : List (Int × Int), ys.length = n ∧ (∀ j : Nat, j < 0 → ys.getD j (0, 0) = (k + 2 * j, k + 2 * j + 1)) ∧ w.ownsRow base 46 2 (.slice (some ⟨g, 0, none⟩) n c) n (cellsP ys)) := ⟨xs, hx, fun j h => absurd h (by omega), by rw [← hx]; rw [← hx] at ho; exact ho⟩
  clear ho hx
  go_enter Try.func44, Try.ntmps44
  go_wp2
  go_loopw [1, 5] (fun q i wr => ∃ p : Nat, p ≤ n ∧ i = .int .i64 p ∧ q = .int .i64 (k + 2 * p) ∧ Hid (∃ ys : List (Int × Int), ys.length = n ∧ (∀ j : Nat, j < p → ys.getD j (0, 0) = (k + 2 * j, k + 2 * j + 1)) ∧ wr.ownsRow base 46 2 (.slice (some ⟨g, 0, none⟩) n c) n (cellsP ys)) ∧ Hid (w.grownBy wr (some g))) (fun _ i _ => n - (intOf i).toNat)
  case atStart => exact ⟨0, Nat.zero_le _, rfl, by go_num, HO, World.grownBy.refl _ _⟩
  case round =>
    clear HO
    obtain ⟨p, hp, rfl, rfl, hO, hgr⟩ := hrel
    by_cases hlt : p < n
    · obtain ⟨ys, hyl, hyt, hyo⟩ := hO.out
      clear hO
      have c1 := cellsP_at ys p (by omega)
      have g1 : wr.cell? ⟨g, p * 2, none⟩ = some (.int .i64 (ys.getD p (0, 0)).1) := by rw [World.ownsRow.cellAt hyo (p * 2) (by omega)]; exact c1.1
      have g2 : wr.cell? ⟨g, p * 2 + 1, none⟩ = some (.int .i64 (ys.getD p (0, 0)).2) := by rw [World.ownsRow.cellAt hyo (p * 2 + 1) (by omega)]; exact c1.2
      have g3 : wr.frozen? ⟨g, p * 2, none⟩ = false := World.ownsRow.frozenAt hyo _
      have g4 : wr.frozen? ⟨g, p * 2 + 1, none⟩ = false := World.ownsRow.frozenAt hyo _
      obtain ⟨z, hz⟩ : ∃ z : Int, z = k + 2 * p := ⟨_, rfl⟩
      rw [← hz]
      have st1 := World.ownsRow.stored hyo (p * 2) (.int .i64 z)
      have st2 := World.ownsRow.stored st1.1 (p * 2 + 1) (.int .i64 (z + 1))
      rw [cellsP_set] at st2
      have HS : Hid ((∃ zs : List (Int × Int), zs.length = n ∧ (∀ j : Nat, j < p + 1 → zs.getD j (0, 0) = (k + 2 * j, k + 2 * j + 1)) ∧ ((wr.setCell ⟨g, p * 2, none⟩ (.int .i64 z)).setCell ⟨g, p * 2 + 1, none⟩ (.int .i64 (z + 1))).ownsRow base 46 2 (.slice (some ⟨g, 0, none⟩) n c) n (cellsP zs)) ∧ w.grownBy ((wr.setCell ⟨g, p * 2, none⟩ (.int .i64 z)).setCell ⟨g, p * 2 + 1, none⟩ (.int .i64 (z + 1))) (some g)) :=
        ⟨⟨ys.set p (z, z + 1), by simpa using hyl, fun j hj => by
          by_cases e : j = p
          · subst e; simp [List.getD, show j < ys.length by omega, hz]
          · have := hyt j (by omega)
            rw [← this]; simp [List.getD, List.getElem?_set, show p ≠ j by omega], st2.1⟩, grown_trans (grown_trans hgr.out st1.2) st2.2⟩
      have hz0 : 0 ≤ z := by omega
      have hz1 : z ≤ 35184372088832 := by omega
      have HZ : Hid (z = k + 2 * p) := hz
      clear st1 st2 hyo hyt hyl hgr c1 hz
      generalize (ys.getD p (0, 0)).1 = y1 at g1
      generalize (ys.getD p (0, 0)).2 = y2 at g2
      go_wp2
      go_roundw
      case rel => exact ⟨p + 1, by omega, by go_num, by have := HZ.out; go_num, HS.out.1, HS.out.2⟩
      case measure => simp [intOf]; omega
    · go_wp2
      go_ret
      obtain ⟨ys, hyl, hyt, hyo⟩ := hO.out
      obtain rfl : p = n := by omega
      have e := marksP_of k p ys hyl hyt
      subst e
      refine ⟨rfl, ?_, hgr.out⟩
      unfold OwnP
      rw [marksP_length]
      exact hyo

theorem markPartS_nil (ao : Option Addr) (c : Nat) (k : Int) (w : World) :
    Calls Try.prog 44 #[.slice ao 0 c, .int .i64 k] w fun e w' => e = .returned (.int .i64 k) ∧ w' = w := by
  go_enter Try.func44, Try.ntmps44
  go_wp2
  refine wp_loop_rounds 1 ?_
  rw [rounds_succ]
  go_wp2
  go_ret
  exact ⟨rfl, rfl⟩

/-- A mark over a row of the call's own: the row holds the marks, nothing else has turned. -/
theorem markPartS_c (ao : Option Addr) (n c : Nat) (k : Int) (base : Nat) (xs : List (Int × Int)) (w : World) (hn : n ≤ 8796093022208) (h0 : 0 ≤ k) (h1 : k ≤ 17592186044416) (ho : OwnP w base (.slice ao n c) xs) :
    Calls Try.prog 44 #[.slice ao n c, .int .i64 k] w fun e w' => e = .returned (.int .i64 (k + 2 * n)) ∧ OwnP w' base (.slice ao n c) (marksP k n) ∧ w.grownBy w' (Value.slice ao n c).ownBlock := by
  have hx := ho.rd'.1
  rcases ho.form with ⟨h, rfl⟩ | ⟨g, cap, h, hb, hg, hc⟩
  · simp only [Value.slice.injEq] at h
    obtain ⟨rfl, rfl, rfl⟩ := h
    refine (markPartS_nil none 0 k w).mono ?_
    rintro e w' ⟨rfl, rfl⟩
    exact ⟨by simp, ho, World.grownBy.refl _ _⟩
  · simp only [Value.slice.injEq] at h
    obtain ⟨rfl, _, _⟩ := h
    exact markPartS_at g n c k base xs w hn hx h0 h1 ho

set_option maxHeartbeats 400000 in
theorem heldPartS_at (g n c : Nat) (k : Int) (w : World) (hn : n ≤ 8796093022208) (h0 : 0 ≤ k) (h1 : k ≤ 17592186044416) (hc : ∀ j, j < n → w.cell? ⟨g, j * 2, none⟩ = some (.int .i64 (k + 2 * j)) ∧ w.cell? ⟨g, j * 2 + 1, none⟩ = some (.int .i64 (k + 2 * j + 1))) :
    Calls Try.prog 45 #[.slice (some ⟨g, 0, none⟩) n c, .int .i64 k] w fun e w' => e = .returned (.int .i64 (k + 2 * n)) ∧ w' = w := by
  have HC : Hid (∀ j, j < n → w.cell? ⟨g, j * 2, none⟩ = some (.int .i64 (k + 2 * j)) ∧ w.cell? ⟨g, j * 2 + 1, none⟩ = some (.int .i64 (k + 2 * j + 1))) := hc
  clear hc
  go_enter Try.func45, Try.ntmps45
  go_wp2
  go_loop [1, 5] (fun q i => ∃ p : Nat, p ≤ n ∧ i = .int .i64 p ∧ q = .int .i64 (k + 2 * p)) (fun _ i => n - (intOf i).toNat)
  case atStart => exact ⟨0, Nat.zero_le _, rfl, by go_num⟩
  case round =>
    obtain ⟨p, hp, rfl, rfl⟩ := hrel
    by_cases hlt : p < n
    · obtain ⟨g1, g2⟩ := HC.out p hlt
      obtain ⟨z, hz⟩ : ∃ z : Int, z = k + 2 * p := ⟨_, rfl⟩
      rw [← hz] at g1 g2 ⊢
      have HZ : Hid (z = k + 2 * p) := hz
      have hz0 : 0 ≤ z := by omega
      have hz1 : z ≤ 35184372088832 := by omega
      have e1 : (z != z) = false := by simp
      have e2 : (z + 1 != z + 1) = false := by simp
      clear hz
      go_wp2
      go_round
      case rel => exact ⟨p + 1, by omega, by go_num, by have := HZ.out; go_num⟩
      case measure => simp [intOf]; omega
    · go_wp2
      go_ret
      obtain rfl : p = n := by omega
      exact ⟨rfl, rfl⟩

theorem heldPartS_nil (ao : Option Addr) (c : Nat) (k : Int) (w : World) :
    Calls Try.prog 45 #[.slice ao 0 c, .int .i64 k] w fun e w' => e = .returned (.int .i64 k) ∧ w' = w := by
  go_enter Try.func45, Try.ntmps45
  go_wp2
  refine wp_loop_rounds 1 ?_
  rw [rounds_succ]
  go_wp2
  go_ret
  exact ⟨rfl, rfl⟩

theorem heldPartS_c (ao : Option Addr) (n c : Nat) (k : Int) (base : Nat) (w : World) (hn : n ≤ 8796093022208) (h0 : 0 ≤ k) (h1 : k ≤ 17592186044416) (ho : OwnP w base (.slice ao n c) (marksP k n)) :
    Calls Try.prog 45 #[.slice ao n c, .int .i64 k] w fun e w' => e = .returned (.int .i64 (k + 2 * n)) ∧ w' = w := by
  rcases ho.form with ⟨h, h2⟩ | ⟨g, cap, h, hb, hg, hc⟩
  · simp only [Value.slice.injEq] at h
    obtain ⟨rfl, rfl, rfl⟩ := h
    refine (heldPartS_nil none 0 k w).mono ?_
    rintro e w' ⟨rfl, rfl⟩
    exact ⟨by simp, rfl⟩
  · simp only [Value.slice.injEq] at h
    obtain ⟨rfl, _, _⟩ := h
    refine heldPartS_at g n c k w hn h0 h1 fun j hj => ?_
    have e : (marksP k n).length = n := marksP_length k n
    have := OwnP.cell (g := g) (cap := c) (xs := marksP k n) (by rw [e]; exact ho) j (by omega)
    rw [marksP_getD k n j hj] at this
    exact this

end Go.Proofs.Ytamppekadobagaa
