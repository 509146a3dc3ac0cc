/- Chapter 3: contracts of the helpers over lists of bools. -/
import Derived.Test.YtaokmjbhgkfnfaaB3p
namespace Go.Proofs.Ytaokmjbhgkfnfaa
set_option linter.unusedVariables false
set_option maxRecDepth 1000000
set_option linter.unusedSimpArgs false
open Go.RowKit

theorem Try.infoBool : (Try.prog.info? 4).map (fun i => (i.zero, i.size, i.bytes)) = some (some (.bool false), 1, 1) := by kernel_rfl

/-- A list of ints as the cells of a row. -/
def cellsB (xs : List Bool) : List Value := xs.map Value.bool

/-- The slice at address ao of length xs.length reads as xs. -/
def RdB (w : World) (ao : Option Addr) (xs : List Bool) : Prop :=
  xs = [] ∨ ∃ b off, ao = some ⟨b, off, none⟩ ∧ ∀ j, j < xs.length → w.cell? ⟨b, off + j, none⟩ = some (.bool (xs.getD j false))

theorem eqBoolS_ne (ao bo : Option Addr) (n m c d : Nat) (w : World) (hnm : n ≠ m) (hn : n ≤ 140737488355328) (hm : m ≤ 140737488355328) :
    Calls Try.prog 46 #[.slice ao n c, .slice bo m d] w fun e w' => e = .returned (.bool false) ∧ w' = w := by
  have hx : ((n : Int) != (m : Int)) = true := by rw [bne_iff_ne]; omega
  go_enter Try.func46, Try.ntmps46
  go_wp2
  go_ret
  exact ⟨rfl, rfl⟩

theorem eqBoolS_nil (ao bo : Option Addr) (c d : Nat) (w : World) :
    Calls Try.prog 46 #[.slice ao 0 c, .slice bo 0 d] w fun e w' => e = .returned (.bool true) ∧ w' = w := by
  go_enter Try.func46, Try.ntmps46
  go_wp2
  refine wp_loop_rounds 1 ?_
  rw [rounds_succ]
  go_wp2
  go_ret
  exact ⟨rfl, rfl⟩


theorem getD_map_bool (xs : List Bool) (j : Nat) (h : j < xs.length) : (cellsB xs)[j]? = some (.bool (xs.getD j false)) := by
  unfold cellsB; simp [List.getD, h]

theorem take_eq_succB {xs ys : List Bool} {k : Nat} (hx : k < xs.length) (hy : k < ys.length) (h : xs.take k = ys.take k) (e : xs.getD k false = ys.getD k false) : xs.take (k + 1) = ys.take (k + 1) := by
  rw [List.take_succ_eq_append_getElem hx, List.take_succ_eq_append_getElem hy, h]
  simp [List.getD, hx, hy] at e
  rw [e]

set_option maxHeartbeats 400000 in
theorem eqBoolS_at (b o n c b' o' d : Nat) (xs ys : List Bool) (w : World) (hx : xs.length = n) (hy : ys.length = n) (hn : n ≤ 140737488355328)
    (hcx : ∀ j, j < n → w.cell? ⟨b, o + j, none⟩ = some (.bool (xs.getD j false))) (hcy : ∀ j, j < n → w.cell? ⟨b', o' + j, none⟩ = some (.bool (ys.getD j false))) :
    Calls Try.prog 46 #[.slice (some ⟨b, o, none⟩) n c, .slice (some ⟨b', o', none⟩) n d] w fun e w' => e = .returned (.bool (decide (xs = ys))) ∧ Below w.heap.size w w' := by
  have HX : Hid (xs.length = n) := hx
  have HY : Hid (ys.length = n) := hy
  clear hx hy
  go_enter Try.func46, Try.ntmps46
  go_wp2
  go_loopw [5] (fun i wr => ∃ k : Nat, k ≤ n ∧ i = .int .i64 k ∧ xs.take k = ys.take k ∧ Below w.heap.size w wr ∧ (∀ j, j < n → wr.cell? ⟨b, o + j, none⟩ = some (.bool (xs.getD j false))) ∧ (∀ j, j < n → wr.cell? ⟨b', o' + j, none⟩ = some (.bool (ys.getD j false)))) (fun i _ => n - (intOf i).toNat)
  case atStart => exact ⟨0, Nat.zero_le _, rfl, rfl, Below.refl _ _, hcx, hcy⟩
  case round =>
    obtain ⟨k, hk, rfl, htk, hbel, hc1, hc2⟩ := hrel
    have HT : Hid (xs.take k = ys.take k) := htk
    clear htk hcx hcy
    by_cases hlt : k < n
    · have g1 := hc1 k hlt
      have g2 := hc2 k hlt
      have h0 : (0 : Int) ≤ (k : Int) := by omega
      have hl : (k : Int) < (n : Int) := by omega
      generalize hx : xs.getD k false = x at g1
      generalize hy : ys.getD k false = y at g2
      have H1 : Hid (xs.getD k false = x) := hx
      have H2 : Hid (ys.getD k false = y) := hy
      clear hx hy
      by_cases hxy : x = y
      · subst hxy
        have ht : (x != x) = false := by simp
        have HC : Hid ((∀ j, j < n → wr.cell? ⟨b, o + j, none⟩ = some (.bool (xs.getD j false))) ∧ (∀ j, j < n → wr.cell? ⟨b', o' + j, none⟩ = some (.bool (ys.getD j false)))) := ⟨hc1, hc2⟩
        clear hc1 hc2
        go_wp2
        go_quiet (fail)
        go_wp2
        go_roundw
        case rel => exact ⟨k + 1, by omega, by go_num, take_eq_succB (by rw [HX.out]; omega) (by rw [HY.out]; omega) HT.out (H1.out.trans H2.out.symm), below_drewN hbel _, HC.out.1, HC.out.2⟩
        case measure => simp [intOf]; omega
      · have ht : (x != y) = true := by simpa using hxy
        clear hc1 hc2
        have hne : xs ≠ ys := fun e => hxy (by rw [← H1.out, ← H2.out, e])
        clear ht
        cases x <;> cases y <;> first | exact absurd rfl hxy | skip
        all_goals go_wp2
        all_goals go_quiet (fail)
        all_goals go_wp2
        all_goals go_ret
        all_goals exact ⟨by simp [hne], below_drewN hbel _⟩
    · clear hc1 hc2
      go_wp2
      go_ret
      refine ⟨?_, hbel⟩
      have e : xs = ys := by
        have := HT.out
        rwa [List.take_of_length_le (by rw [HX.out]; omega), List.take_of_length_le (by rw [HY.out]; omega)] at this
      simp [e]

/-- The slice value v is a row of the call's own (block from base on) that holds xs. -/
def OwnB (w : World) (base : Nat) (v : Value) (xs : List Bool) : Prop := w.ownsRow base 4 1 v xs.length (cellsB xs)

theorem cellsB_length (xs : List Bool) : (cellsB xs).length = xs.length := by simp [cellsB]
theorem cellsB_set (xs : List Bool) (k : Nat) (x : Bool) : (cellsB xs).set k (.bool x) = cellsB (xs.set k x) := by simp [cellsB, List.map_set]
theorem bools_oneCell (zs : List Bool) : ∀ u ∈ zs.map Value.bool, u.oneCell' = true := by
  intro u hu
  obtain ⟨x, _, rfl⟩ := List.mem_map.1 hu
  rfl
theorem cellsB_oneCell (xs : List Bool) : ∀ u ∈ cellsB xs, u.oneCell' = true := bools_oneCell _

theorem OwnB.form {w : World} {base : Nat} {v : Value} {xs : List Bool} (h : OwnB w base v xs) : (v = .slice none 0 0 ∧ xs = []) ∨ ∃ g cap, v = .slice (some ⟨g, 0, none⟩) xs.length cap ∧ base ≤ g ∧ g < w.heap.size ∧ xs.length ≤ cap ∧ cap ≤ maxLen := by
  rcases h.2 with ⟨h1, h2⟩ | ⟨g, cap, cur, hv, hb, hg, hc, hm, _⟩
  · exact Or.inl ⟨h1, List.length_eq_zero_iff.1 h2⟩
  · exact Or.inr ⟨g, cap, hv, hb, (Array.getElem?_eq_some_iff.1 hg).1, hc, hm⟩

theorem OwnB.cell {w : World} {base g cap : Nat} {xs : List Bool} (h : OwnB w base (.slice (some ⟨g, 0, none⟩) xs.length cap) xs) : ∀ j, j < xs.length → w.cell? ⟨g, j, none⟩ = some (.bool (xs.getD j false)) := fun j hj => by
  rw [World.ownsRow.cellAt h j (by omega)]
  exact getD_map_bool xs j hj

theorem OwnB.free {w : World} {base g cap : Nat} {xs : List Bool} (h : OwnB w base (.slice (some ⟨g, 0, none⟩) xs.length cap) xs) (j : Nat) : w.frozen? ⟨g, j, none⟩ = false := World.ownsRow.frozenAt h j

theorem OwnB.rd {w : World} {base : Nat} {v : Value} {xs : List Bool} (h : OwnB w base v xs) : ∃ ao cap, v = .slice ao xs.length cap ∧ RdB w ao xs := by
  rcases h.form with ⟨rfl, rfl⟩ | ⟨g, cap, rfl, _⟩
  · exact ⟨none, 0, rfl, Or.inl rfl⟩
  · exact ⟨_, _, rfl, Or.inr ⟨g, 0, rfl, fun j hj => by simpa using h.cell j hj⟩⟩

theorem OwnB.later {w w' : World} {base : Nat} {v : Value} {xs : List Bool} (h : OwnB w base v xs) (hb : Below w.heap.size w w') : OwnB w' base v xs := by
  refine ⟨h.1, ?_⟩
  rcases h.2 with h2 | ⟨g, cap, cur, hv, hg, hh, r⟩
  · exact Or.inl h2
  · exact Or.inr ⟨g, cap, cur, hv, hg, by rw [hb.block g (Array.getElem?_eq_some_iff.1 hh).1]; exact hh, r⟩

theorem OwnB.mono {w : World} {base base' : Nat} {v : Value} {xs : List Bool} (h : OwnB w base v xs) (hb : base' ≤ base) : OwnB w base' v xs := by
  refine ⟨h.1, ?_⟩
  rcases h.2 with h2 | ⟨g, cap, cur, hv, hg, r⟩
  · exact Or.inl h2
  · exact Or.inr ⟨g, cap, cur, hv, Nat.le_trans hb hg, r⟩

theorem OwnB.kept {w w' : World} {base : Nat} {v : Value} {xs : List Bool} {row : Option Nat} (h : OwnB w base v xs) (hg : w.grownBy w' row) (hne : v.ownBlock = none ∨ v.ownBlock ≠ row) : OwnB w' base v xs := World.ownsRow.kept h hg hne

theorem RdB.later {w w' : World} {ao : Option Addr} {xs : List Bool} (h : RdB w ao xs) (hb : Below w.heap.size w w') : RdB w' ao xs := by
  rcases h with h | ⟨b, off, he, hc⟩
  · exact Or.inl h
  · refine Or.inr ⟨b, off, he, fun j hj => ?_⟩
    rw [hb.cell (p := ⟨b, off + j, none⟩) (World.block_lt_of_cell? w _ (hc j hj))]
    exact hc j hj

theorem OwnB.shape {w : World} {base : Nat} {v : Value} {xs : List Bool} (h : OwnB w base v xs) : ∃ ao cap, v = .slice ao xs.length cap := by
  obtain ⟨ao, cap, h1, _⟩ := h.rd
  exact ⟨ao, cap, h1⟩

theorem OwnB.rd' {w : World} {base n cap : Nat} {ao : Option Addr} {xs : List Bool} (h : OwnB w base (.slice ao n cap) xs) : xs.length = n ∧ RdB w ao xs := by
  obtain ⟨ao', cap', h1, h2⟩ := h.rd
  simp only [Value.slice.injEq] at h1
  obtain ⟨rfl, h3, _⟩ := h1
  exact ⟨h3.symm, h2⟩

theorem eqBoolS_c (ao bo : Option Addr) (n m c d : Nat) (xs ys : List Bool) (w : World) (hx : xs.length = n) (hy : ys.length = m) (hn : n ≤ 17592186044416) (hm : m ≤ 17592186044416) (hr : RdB w ao xs) (hs : RdB w bo ys) :
    Calls Try.prog 46 #[.slice ao n c, .slice bo m d] w fun e w' => e = .returned (.bool (decide (xs = ys))) ∧ Below w.heap.size w w' := by
  by_cases hnm : n = m
  · subst hnm
    rcases hr with rfl | ⟨b, o, rfl, hc⟩
    · simp at hx; subst hx
      have : ys = [] := List.length_eq_zero_iff.1 hy
      subst this
      refine (eqBoolS_nil ao bo c d w).mono ?_
      rintro e w' ⟨rfl, rfl⟩
      exact ⟨by simp, Below.refl _ _⟩
    · rcases hs with rfl | ⟨b', o', rfl, hc'⟩
      · simp at hy; subst hy
        have : xs = [] := List.length_eq_zero_iff.1 hx
        subst this
        refine (eqBoolS_nil _ bo c d w).mono ?_
        rintro e w' ⟨rfl, rfl⟩
        exact ⟨by simp, Below.refl _ _⟩
      · exact eqBoolS_at b o n c b' o' d xs ys w hx hy (by omega) (by rw [← hx]; exact hc) (by rw [← hy]; exact hc')
  · refine (eqBoolS_ne ao bo n m c d w hnm (by omega) (by omega)).mono ?_
    rintro e w' ⟨rfl, rfl⟩
    refine ⟨?_, Below.refl _ _⟩
    have : xs ≠ ys := fun e => hnm (by rw [← hx, ← hy, e])
    simp [this]

/-- The marksB k, k + 1, .. of a row of n. -/
def marksB (k : Int) (n : Nat) : List Bool := (List.range n).map (fun j : Nat => (k + (j : Int)) % 3 == 0)
theorem marksB_length (k : Int) (n : Nat) : (marksB k n).length = n := by simp [marksB]
theorem marksB_getD (k : Int) (n j : Nat) (h : j < n) : (marksB k n).getD j false = ((k + j) % 3 == 0) := by simp [marksB, List.getD, h]
theorem marksB_of (k : Int) (n : Nat) (ys : List Bool) (hl : ys.length = n) (h : ∀ j : Nat, j < n → ys.getD j false = ((k + j) % 3 == 0)) : ys = marksB k n := by
  refine List.ext_getElem (by rw [hl, marksB_length]) fun j h1 h2 => ?_
  have e1 := h j (by omega)
  have e2 := marksB_getD k n j (by omega)
  simp [List.getD, h1] at e1
  simp [List.getD, h2] at e2
  rw [e1, e2]

set_option maxHeartbeats 400000 in
theorem markBoolS_at (g n c : Nat) (k : Int) (base : Nat) (xs : List Bool) (w : World) (hn : n ≤ 17592186044416) (hx : xs.length = n) (h0 : 0 ≤ k) (h1 : k ≤ 17592186044416) (ho : OwnB w base (.slice (some ⟨g, 0, none⟩) n c) xs) :
    Calls Try.prog 49 #[.slice (some ⟨g, 0, none⟩) n c, .int .i64 k] w fun e w' => e = .returned (.int .i64 (k + n)) ∧ OwnB w' base (.slice (some ⟨g, 0, none⟩) n c) (marksB k n) ∧ w.grownBy w' (some g) := by
  have HO : Hid (∃ ys : List Bool, ys.length = n ∧ (∀ j : Nat, j < 0 → ys.getD j false = ((k + j) % 3 == 0)) ∧ w.ownsRow base 4 1 (.slice (some ⟨g, 0, none⟩) n c) n (cellsB ys)) := ⟨xs, hx, fun j h => absurd h (by omega), by rw [← hx]; rw [← hx] at ho; exact ho⟩
  clear ho hx
  go_enter Try.func49, Try.ntmps49
  go_wp2
  go_loopw [1, 5] (fun q i wr => ∃ p : Nat, p ≤ n ∧ i = .int .i64 p ∧ q = .int .i64 (k + p) ∧ Hid (∃ ys : List Bool, ys.length = n ∧ (∀ j : Nat, j < p → ys.getD j false = ((k + j) % 3 == 0)) ∧ wr.ownsRow base 4 1 (.slice (some ⟨g, 0, none⟩) n c) n (cellsB ys)) ∧ w.grownBy wr (some g)) (fun _ i _ => n - (intOf i).toNat)
  case atStart => exact ⟨0, Nat.zero_le _, rfl, by go_num, HO, World.grownBy.refl _ _⟩
  case round =>
    clear HO
    obtain ⟨p, hp, rfl, rfl, hO, hgr⟩ := hrel
    by_cases hlt : p < n
    · obtain ⟨ys, hyl, hyt, hyo⟩ := hO.out
      clear hO
      have g2 : wr.cell? ⟨g, p, none⟩ = some (.bool (ys.getD p false)) := by
        rw [World.ownsRow.cellAt hyo p (by omega)]; exact getD_map_bool ys p (by omega)
      have g3 : wr.frozen? ⟨g, p, none⟩ = false := World.ownsRow.frozenAt hyo p
      have hst := World.ownsRow.stored hyo p (.bool ((k + p) % 3 == 0))
      rw [cellsB_set] at hst
      have HS : Hid ((∃ zs : List Bool, zs.length = n ∧ (∀ j : Nat, j < p + 1 → zs.getD j false = ((k + j) % 3 == 0)) ∧ (wr.setCell ⟨g, p, none⟩ (.bool ((k + p) % 3 == 0))).ownsRow base 4 1 (.slice (some ⟨g, 0, none⟩) n c) n (cellsB zs)) ∧ w.grownBy (wr.setCell ⟨g, p, none⟩ (.bool ((k + p) % 3 == 0))) (some g)) :=
        ⟨⟨ys.set p ((k + p) % 3 == 0), by simpa using hyl, fun j hj => by
          by_cases e : j = p
          · subst e; simp [List.getD, show j < ys.length by omega]
          · have := hyt j (by omega)
            rw [← this]; simp [List.getD, List.getElem?_set, show p ≠ j by omega], hst.1⟩,
         ⟨hst.2.os.trans hgr.os, hst.2.tape.trans hgr.tape, hst.2.output.trans hgr.output, Nat.le_trans hgr.size hst.2.size, fun q hq hne => (hst.2.block q (Nat.lt_of_lt_of_le hq hgr.size) hne).trans (hgr.block q hq hne)⟩⟩
      clear hst hyo hyt hyl hgr
      generalize hy : ys.getD p false = y at g2
      clear hy
      go_wp2
      go_roundw
      case rel => exact ⟨p + 1, by omega, by go_num, by go_num, HS.out.1, HS.out.2⟩
      case measure => simp [intOf]; omega
    · go_wp2
      go_ret
      obtain ⟨ys, hyl, hyt, hyo⟩ := hO.out
      obtain rfl : p = n := by omega
      have e := marksB_of k p ys hyl hyt
      subst e
      refine ⟨rfl, ?_, hgr⟩
      unfold OwnB
      rw [marksB_length]
      exact hyo

theorem markBoolS_nil (ao : Option Addr) (c : Nat) (k : Int) (w : World) :
    Calls Try.prog 49 #[.slice ao 0 c, .int .i64 k] w fun e w' => e = .returned (.int .i64 k) ∧ w' = w := by
  go_enter Try.func49, Try.ntmps49
  go_wp2
  refine wp_loop_rounds 1 ?_
  rw [rounds_succ]
  go_wp2
  go_ret
  exact ⟨rfl, rfl⟩

/-- A mark over a row of the call's own: the row holds the marksB, nothing else has turned. -/
theorem markBoolS_c (ao : Option Addr) (n c : Nat) (k : Int) (base : Nat) (xs : List Bool) (w : World) (hn : n ≤ 17592186044416) (h0 : 0 ≤ k) (h1 : k ≤ 17592186044416) (ho : OwnB w base (.slice ao n c) xs) :
    Calls Try.prog 49 #[.slice ao n c, .int .i64 k] w fun e w' => e = .returned (.int .i64 (k + n)) ∧ OwnB w' base (.slice ao n c) (marksB k n) ∧ w.grownBy w' (Value.slice ao n c).ownBlock := by
  have hx := ho.rd'.1
  rcases ho.form with ⟨h, rfl⟩ | ⟨g, cap, h, hb, hg, hc⟩
  · simp only [Value.slice.injEq] at h
    obtain ⟨rfl, rfl, rfl⟩ := h
    refine (markBoolS_nil none 0 k w).mono ?_
    rintro e w' ⟨rfl, rfl⟩
    exact ⟨by simp, ho, World.grownBy.refl _ _⟩
  · simp only [Value.slice.injEq] at h
    obtain ⟨rfl, _, _⟩ := h
    exact markBoolS_at g n c k base xs w hn hx h0 h1 ho

set_option maxHeartbeats 400000 in
theorem heldBoolS_at (g n c : Nat) (k : Int) (w : World) (hn : n ≤ 17592186044416) (h0 : 0 ≤ k) (h1 : k ≤ 17592186044416) (hc : ∀ j, j < n → w.cell? ⟨g, j, none⟩ = some (.bool ((k + j) % 3 == 0))) :
    Calls Try.prog 50 #[.slice (some ⟨g, 0, none⟩) n c, .int .i64 k] w fun e w' => e = .returned (.int .i64 (k + n)) ∧ w' = w := by
  go_enter Try.func50, Try.ntmps50
  go_wp2
  go_loop [1, 5] (fun q i => ∃ p : Nat, p ≤ n ∧ i = .int .i64 p ∧ q = .int .i64 (k + p)) (fun _ i => n - (intOf i).toNat)
  case atStart => exact ⟨0, Nat.zero_le _, rfl, by go_num⟩
  case round =>
    obtain ⟨p, hp, rfl, rfl⟩ := hrel
    by_cases hlt : p < n
    · have g1 := hc p hlt
      clear hc
      go_wp2
      go_round
      case rel => exact ⟨p + 1, by omega, by go_num, by go_num⟩
      case measure => simp [intOf]; omega
    · clear hc
      go_wp2
      go_ret
      obtain rfl : p = n := by omega
      exact ⟨rfl, rfl⟩

theorem heldBoolS_nil (ao : Option Addr) (c : Nat) (k : Int) (w : World) :
    Calls Try.prog 50 #[.slice ao 0 c, .int .i64 k] w fun e w' => e = .returned (.int .i64 k) ∧ w' = w := by
  go_enter Try.func50, Try.ntmps50
  go_wp2
  refine wp_loop_rounds 1 ?_
  rw [rounds_succ]
  go_wp2
  go_ret
  exact ⟨rfl, rfl⟩

theorem heldBoolS_c (ao : Option Addr) (n c : Nat) (k : Int) (base : Nat) (w : World) (hn : n ≤ 17592186044416) (h0 : 0 ≤ k) (h1 : k ≤ 17592186044416) (ho : OwnB w base (.slice ao n c) (marksB k n)) :
    Calls Try.prog 50 #[.slice ao n c, .int .i64 k] w fun e w' => e = .returned (.int .i64 (k + n)) ∧ w' = w := by
  rcases ho.form with ⟨h, h2⟩ | ⟨g, cap, h, hb, hg, hc⟩
  · simp only [Value.slice.injEq] at h
    obtain ⟨rfl, rfl, rfl⟩ := h
    refine (heldBoolS_nil none 0 k w).mono ?_
    rintro e w' ⟨rfl, rfl⟩
    exact ⟨by simp, rfl⟩
  · simp only [Value.slice.injEq] at h
    obtain ⟨rfl, _, _⟩ := h
    refine heldBoolS_at g n c k w hn h0 h1 fun j hj => ?_
    have e : (marksB k n).length = n := marksB_length k n
    have := OwnB.cell (g := g) (cap := c) (xs := marksB k n) (by rw [e]; exact ho) j (by omega)
    rw [marksB_getD k n j hj] at this
    exact this


theorem own_block_geB {w : World} {base : Nat} {v : Value} {xs : List Bool} (h : OwnB w base v xs) : ∀ k, v.ownBlock = some k → base ≤ k := fun k hk => (World.ownsRow.lt h k hk).1

end Go.Proofs.Ytaokmjbhgkfnfaa
