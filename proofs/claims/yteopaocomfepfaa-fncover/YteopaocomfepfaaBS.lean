/- Contracts of the helpers over lists of texts. -/
import Derived.Test.YteopaocomfepfaaB3
import Derived.Laws.BytesArg
import Derived.Deep.RegionWith
namespace Go.Proofs.Yteopaocomfepfaa
set_option linter.unusedVariables false
set_option maxRecDepth 1000000
set_option linter.unusedSimpArgs false
open Go.RowKit

theorem tl_inj {a b : ByteArray} (h : a.toList = b.toList) : a = b := by
  rw [ByteArray.toList_eq, ByteArray.toList_eq] at h
  exact Go.WideShapes.bytes_inj h

theorem Try.infoStr : (Try.prog.info? 9).map (fun i => (i.zero, i.size, i.bytes)) = some (some (.string ByteArray.empty), 1, 16) := by kernel_rfl

/-- A list of ints as the cells of a row. -/
def cellsS (xs : List ByteArray) : List Value := xs.map Value.string

/-- The slice at address ao of length xs.length reads as xs. -/
def RdS (w : World) (ao : Option Addr) (xs : List ByteArray) : Prop :=
  xs = [] ∨ ∃ b off, ao = some ⟨b, off, none⟩ ∧ ∀ j, j < xs.length → w.cell? ⟨b, off + j, none⟩ = some (.string (xs.getD j ByteArray.empty))

theorem eqStringS_ne (ao bo : Option Addr) (n m c d : Nat) (w : World) (hnm : n ≠ m) (hn : n ≤ 140737488355328) (hm : m ≤ 140737488355328) :
    Calls Try.prog 47 #[.slice ao n c, .slice bo m d] w fun e w' => e = .returned (.bool false) ∧ w' = w := by
  have hx : ((n : Int) != (m : Int)) = true := by rw [bne_iff_ne]; omega
  go_enter Try.func47, Try.ntmps47
  go_wp2
  go_ret
  exact ⟨rfl, rfl⟩

theorem eqStringS_nil (ao bo : Option Addr) (c d : Nat) (w : World) :
    Calls Try.prog 47 #[.slice ao 0 c, .slice bo 0 d] w fun e w' => e = .returned (.bool true) ∧ w' = w := by
  go_enter Try.func47, Try.ntmps47
  go_wp2
  refine wp_loop_rounds 1 ?_
  rw [rounds_succ]
  go_wp2
  go_ret
  exact ⟨rfl, rfl⟩


theorem getD_map_str (xs : List ByteArray) (j : Nat) (h : j < xs.length) : (cellsS xs)[j]? = some (.string (xs.getD j ByteArray.empty)) := by
  unfold cellsS; simp [List.getD, h]

theorem take_eq_succS {xs ys : List ByteArray} {k : Nat} (hx : k < xs.length) (hy : k < ys.length) (h : xs.take k = ys.take k) (e : xs.getD k ByteArray.empty = ys.getD k ByteArray.empty) : xs.take (k + 1) = ys.take (k + 1) := by
  rw [List.take_succ_eq_append_getElem hx, List.take_succ_eq_append_getElem hy, h]
  simp [List.getD, hx, hy] at e
  rw [e]

set_option maxHeartbeats 400000 in
theorem eqStringS_at (b o n c b' o' d : Nat) (xs ys : List ByteArray) (w : World) (hx : xs.length = n) (hy : ys.length = n) (hn : n ≤ 140737488355328)
    (hcx : ∀ j, j < n → w.cell? ⟨b, o + j, none⟩ = some (.string (xs.getD j ByteArray.empty))) (hcy : ∀ j, j < n → w.cell? ⟨b', o' + j, none⟩ = some (.string (ys.getD j ByteArray.empty))) :
    Calls Try.prog 47 #[.slice (some ⟨b, o, none⟩) n c, .slice (some ⟨b', o', none⟩) n d] w fun e w' => e = .returned (.bool (decide (xs = ys))) ∧ Below w.heap.size w w' := by
  have HX : Hid (xs.length = n) := hx
  have HY : Hid (ys.length = n) := hy
  clear hx hy
  go_enter Try.func47, Try.ntmps47
  go_wp2
  go_loopw [5] (fun i wr => ∃ k : Nat, k ≤ n ∧ i = .int .i64 k ∧ xs.take k = ys.take k ∧ Below w.heap.size w wr ∧ (∀ j, j < n → wr.cell? ⟨b, o + j, none⟩ = some (.string (xs.getD j ByteArray.empty))) ∧ (∀ j, j < n → wr.cell? ⟨b', o' + j, none⟩ = some (.string (ys.getD j ByteArray.empty)))) (fun i _ => n - (intOf i).toNat)
  case atStart => exact ⟨0, Nat.zero_le _, rfl, rfl, Below.refl _ _, hcx, hcy⟩
  case round =>
    obtain ⟨k, hk, rfl, htk, hbel, hc1, hc2⟩ := hrel
    have HT : Hid (xs.take k = ys.take k) := htk
    clear htk hcx hcy
    by_cases hlt : k < n
    · have g1 := hc1 k hlt
      have g2 := hc2 k hlt
      have h0 : (0 : Int) ≤ (k : Int) := by omega
      have hl : (k : Int) < (n : Int) := by omega
      generalize hx : xs.getD k ByteArray.empty = x at g1
      generalize hy : ys.getD k ByteArray.empty = y at g2
      have H1 : Hid (xs.getD k ByteArray.empty = x) := hx
      have H2 : Hid (ys.getD k ByteArray.empty = y) := hy
      clear hx hy
      by_cases hxy : x = y
      · subst hxy
        have ht : (x.toList == x.toList) = true := by simp
        have HC : Hid ((∀ j, j < n → wr.cell? ⟨b, o + j, none⟩ = some (.string (xs.getD j ByteArray.empty))) ∧ (∀ j, j < n → wr.cell? ⟨b', o' + j, none⟩ = some (.string (ys.getD j ByteArray.empty)))) := ⟨hc1, hc2⟩
        clear hc1 hc2
        go_wp2
        go_quiet (fail)
        go_wp2
        go_roundw
        case rel => exact ⟨k + 1, by omega, by go_num, take_eq_succS (by rw [HX.out]; omega) (by rw [HY.out]; omega) HT.out (H1.out.trans H2.out.symm), below_drewN hbel _, HC.out.1, HC.out.2⟩
        case measure => simp [intOf]; omega
      · have ht : (x.toList == y.toList) = false := by rw [beq_eq_false_iff_ne]; exact fun h => hxy (tl_inj h)
        clear hc1 hc2
        go_wp2
        go_quiet (fail)
        go_wp2
        go_ret
        refine ⟨?_, below_drewN hbel _⟩
        have : xs ≠ ys := fun e => hxy (by rw [← H1.out, ← H2.out, e])
        simp [this]
    · clear hc1 hc2
      go_wp2
      go_ret
      refine ⟨?_, hbel⟩
      have e : xs = ys := by
        have := HT.out
        rwa [List.take_of_length_le (by rw [HX.out]; omega), List.take_of_length_le (by rw [HY.out]; omega)] at this
      simp [e]

/-- The slice value v is a row of the call's own (block from base on) that holds xs. -/
def OwnS (w : World) (base : Nat) (v : Value) (xs : List ByteArray) : Prop := w.ownsRow base 9 1 v xs.length (cellsS xs)

theorem cellsS_length (xs : List ByteArray) : (cellsS xs).length = xs.length := by simp [cellsS]
theorem cellsS_set (xs : List ByteArray) (k : Nat) (x : ByteArray) : (cellsS xs).set k (.string x) = cellsS (xs.set k x) := by simp [cellsS, List.map_set]
theorem strs_oneCell (zs : List ByteArray) : ∀ u ∈ zs.map Value.string, u.oneCell' = true := by
  intro u hu
  obtain ⟨x, _, rfl⟩ := List.mem_map.1 hu
  rfl
theorem cellsS_oneCell (xs : List ByteArray) : ∀ u ∈ cellsS xs, u.oneCell' = true := strs_oneCell _

theorem OwnS.form {w : World} {base : Nat} {v : Value} {xs : List ByteArray} (h : OwnS w base v xs) : (v = .slice none 0 0 ∧ xs = []) ∨ ∃ g cap, v = .slice (some ⟨g, 0, none⟩) xs.length cap ∧ base ≤ g ∧ g < w.heap.size ∧ xs.length ≤ cap ∧ cap ≤ maxLen := by
  rcases h.2 with ⟨h1, h2⟩ | ⟨g, cap, cur, hv, hb, hg, hc, hm, _⟩
  · exact Or.inl ⟨h1, List.length_eq_zero_iff.1 h2⟩
  · exact Or.inr ⟨g, cap, hv, hb, (Array.getElem?_eq_some_iff.1 hg).1, hc, hm⟩

theorem OwnS.cell {w : World} {base g cap : Nat} {xs : List ByteArray} (h : OwnS w base (.slice (some ⟨g, 0, none⟩) xs.length cap) xs) : ∀ j, j < xs.length → w.cell? ⟨g, j, none⟩ = some (.string (xs.getD j ByteArray.empty)) := fun j hj => by
  rw [World.ownsRow.cellAt h j (by omega)]
  exact getD_map_str xs j hj

theorem OwnS.free {w : World} {base g cap : Nat} {xs : List ByteArray} (h : OwnS w base (.slice (some ⟨g, 0, none⟩) xs.length cap) xs) (j : Nat) : w.frozen? ⟨g, j, none⟩ = false := World.ownsRow.frozenAt h j

theorem OwnS.rd {w : World} {base : Nat} {v : Value} {xs : List ByteArray} (h : OwnS w base v xs) : ∃ ao cap, v = .slice ao xs.length cap ∧ RdS w ao xs := by
  rcases h.form with ⟨rfl, rfl⟩ | ⟨g, cap, rfl, _⟩
  · exact ⟨none, 0, rfl, Or.inl rfl⟩
  · exact ⟨_, _, rfl, Or.inr ⟨g, 0, rfl, fun j hj => by simpa using h.cell j hj⟩⟩

theorem OwnS.later {w w' : World} {base : Nat} {v : Value} {xs : List ByteArray} (h : OwnS w base v xs) (hb : Below w.heap.size w w') : OwnS w' base v xs := by
  refine ⟨h.1, ?_⟩
  rcases h.2 with h2 | ⟨g, cap, cur, hv, hg, hh, r⟩
  · exact Or.inl h2
  · exact Or.inr ⟨g, cap, cur, hv, hg, by rw [hb.block g (Array.getElem?_eq_some_iff.1 hh).1]; exact hh, r⟩

theorem OwnS.mono {w : World} {base base' : Nat} {v : Value} {xs : List ByteArray} (h : OwnS w base v xs) (hb : base' ≤ base) : OwnS w base' v xs := by
  refine ⟨h.1, ?_⟩
  rcases h.2 with h2 | ⟨g, cap, cur, hv, hg, r⟩
  · exact Or.inl h2
  · exact Or.inr ⟨g, cap, cur, hv, Nat.le_trans hb hg, r⟩

theorem OwnS.kept {w w' : World} {base : Nat} {v : Value} {xs : List ByteArray} {row : Option Nat} (h : OwnS w base v xs) (hg : w.grownBy w' row) (hne : v.ownBlock = none ∨ v.ownBlock ≠ row) : OwnS w' base v xs := World.ownsRow.kept h hg hne

theorem RdS.later {w w' : World} {ao : Option Addr} {xs : List ByteArray} (h : RdS w ao xs) (hb : Below w.heap.size w w') : RdS w' ao xs := by
  rcases h with h | ⟨b, off, he, hc⟩
  · exact Or.inl h
  · refine Or.inr ⟨b, off, he, fun j hj => ?_⟩
    rw [hb.cell (p := ⟨b, off + j, none⟩) (World.block_lt_of_cell? w _ (hc j hj))]
    exact hc j hj

set_option maxHeartbeats 400000 in
theorem toStringS_at (b o n c : Nat) (xs : List ByteArray) (w : World) (hx : xs.length = n) (hn : n ≤ 17592186044416)
    (hcx : ∀ j, j < n → w.cell? ⟨b, o + j, none⟩ = some (.string (xs.getD j ByteArray.empty))) :
    Calls Try.prog 79 #[.slice (some ⟨b, o, none⟩) n c] w fun e w' => ∃ v, e = .returned v ∧ OwnS w' w.heap.size v xs ∧ Below w.heap.size w w' := by
  obtain ⟨i0, hi, hz0, hz1, hz2⟩ := info_parts Try.infoStr
  have HX : Hid (xs.length = n) := hx
  have HC : Hid (∀ j, j < n → w.cell? ⟨b, o + j, none⟩ = some (.string (xs.getD j ByteArray.empty))) := hcx
  clear hx hcx
  go_enter Try.func79, Try.ntmps79
  go_wp2_with (at_make; refine wpList_make_full _ rfl _ _ 27 rfl w.heap.size 9 i0 (.string ByteArray.empty) 1 Try.underlying27 hi hz0 hz1 _ _ _ _ n rfl rfl rfl rfl (by rw [hz2]; omega) (by unfold maxLen; omega) (Nat.le_refl _) ?_; intro w0 hown0 hgrow0)
  have hb0 : Below w.heap.size w w0 := (Below.refl _ _).grown hgrow0 (Nat.le_refl _) (fun k h => by cases h)
  have HO : Hid (∃ ys : List ByteArray, ys.length = n ∧ ys.take 0 = xs.take 0 ∧ w0.ownsRow w.heap.size 9 1 (.slice (some ⟨w.heap.size, 0, none⟩) n n) n (cellsS ys)) := ⟨List.replicate n ByteArray.empty, by simp, by simp, by
    have e : (madeCells (Value.string ByteArray.empty).cells (n * 1)).toList = cellsS (List.replicate n ByteArray.empty) := by
      rw [Nat.mul_one]
      exact (toList_madeCells_one _ _).trans (by simp [cellsS])
    rw [← e]; exact hown0⟩
  clear hown0 hgrow0
  go_wp2
  go_loopw [4] (fun i wr => ∃ k : Nat, k ≤ n ∧ i = .int .i64 k ∧ Hid (∃ ys : List ByteArray, ys.length = n ∧ ys.take k = xs.take k ∧ wr.ownsRow w.heap.size 9 1 (.slice (some ⟨w.heap.size, 0, none⟩) n n) n (cellsS ys)) ∧ Below w.heap.size w wr) (fun i _ => n - (intOf i).toNat)
  case atStart => exact ⟨0, Nat.zero_le _, rfl, HO, hb0⟩
  case round =>
    clear HO hb0
    obtain ⟨k, hk, rfl, hO, hbel⟩ := hrel
    by_cases hlt : k < n
    · obtain ⟨ys, hyl, hyt, hyo⟩ := hO.out
      clear hO
      have hcb := HC.out k hlt
      have hbw := World.block_lt_of_cell? w _ hcb
      have g1 : wr.cell? ⟨b, o + k, none⟩ = some (.string (xs.getD k ByteArray.empty)) := by rw [hbel.cell (p := ⟨b, o + k, none⟩) hbw]; exact hcb
      have g2 : wr.cell? ⟨w.heap.size, k, none⟩ = some (.string (ys.getD k ByteArray.empty)) := by
        rw [World.ownsRow.cellAt hyo k (by omega)]; exact getD_map_str ys k (by omega)
      have g3 : wr.frozen? ⟨w.heap.size, k, none⟩ = false := World.ownsRow.frozenAt hyo k
      have hst := World.ownsRow.stored hyo k (.string (xs.getD k ByteArray.empty))
      rw [cellsS_set] at hst
      have HS : Hid (∃ zs : List ByteArray, zs.length = n ∧ zs.take (k + 1) = xs.take (k + 1) ∧ (wr.setCell ⟨w.heap.size, k, none⟩ (.string (xs.getD k ByteArray.empty))).ownsRow w.heap.size 9 1 (.slice (some ⟨w.heap.size, 0, none⟩) n n) n (cellsS zs)) :=
        ⟨ys.set k (xs.getD k ByteArray.empty), by simpa using hyl, by
          refine take_eq_succS (by simp; omega) (by rw [HX.out]; omega) ?_ ?_
          · rw [List.take_set_of_le (Nat.le_refl _)]; exact hyt
          · simp [List.getD, show k < ys.length by omega], hst.1⟩
      clear hst hyo hyt hyl hcb hbw
      generalize hx : xs.getD k ByteArray.empty = x at g1 HS
      generalize hy : ys.getD k ByteArray.empty = y at g2
      clear hx hy
      go_wp2
      go_roundw
      case rel => exact ⟨k + 1, by omega, by go_num, HS, hbel.setCell (Nat.le_refl _) _⟩
      case measure => simp [intOf]; omega
    · go_wp2
      go_ret
      obtain ⟨ys, hyl, hyt, hyo⟩ := hO.out
      have e : ys = xs := by
        rwa [List.take_of_length_le (by omega), List.take_of_length_le (by rw [HX.out]; omega)] at hyt
      subst e
      refine ⟨_, rfl, ?_, hbel⟩
      unfold OwnS
      rw [hyl]
      exact hyo

theorem toStringS_nil (ao : Option Addr) (c : Nat) (w : World) :
    Calls Try.prog 79 #[.slice ao 0 c] w fun e w' => ∃ v, e = .returned v ∧ OwnS w' w.heap.size v [] ∧ Below w.heap.size w w' := by
  obtain ⟨i0, hi, hz0, hz1, hz2⟩ := info_parts Try.infoStr
  go_enter Try.func79, Try.ntmps79
  go_wp2_with (at_make; refine wpList_make_full _ rfl _ _ 27 rfl w.heap.size 9 i0 (.string ByteArray.empty) 1 Try.underlying27 hi hz0 hz1 _ _ _ _ 0 rfl rfl rfl rfl (by rw [hz2]; omega) (by unfold maxLen; omega) (Nat.le_refl _) ?_; intro w0 hown0 hgrow0)
  have hb0 : Below w.heap.size w w0 := (Below.refl _ _).grown hgrow0 (Nat.le_refl _) (fun k h => by cases h)
  refine wp_loop_rounds 1 ?_
  rw [rounds_succ]
  go_wp2
  go_ret
  exact ⟨_, rfl, by simpa [OwnS, cellsS, madeCells] using hown0, hb0⟩

theorem OwnS.shape {w : World} {base : Nat} {v : Value} {xs : List ByteArray} (h : OwnS w base v xs) : ∃ ao cap, v = .slice ao xs.length cap := by
  obtain ⟨ao, cap, h1, _⟩ := h.rd
  exact ⟨ao, cap, h1⟩

theorem OwnS.rd' {w : World} {base n cap : Nat} {ao : Option Addr} {xs : List ByteArray} (h : OwnS w base (.slice ao n cap) xs) : xs.length = n ∧ RdS w ao xs := by
  obtain ⟨ao', cap', h1, h2⟩ := h.rd
  simp only [Value.slice.injEq] at h1
  obtain ⟨rfl, h3, _⟩ := h1
  exact ⟨h3.symm, h2⟩

theorem toStringS_c (ao : Option Addr) (n c : Nat) (xs : List ByteArray) (w : World) (hx : xs.length = n) (hn : n ≤ 17592186044416) (hr : RdS w ao xs) :
    Calls Try.prog 79 #[.slice ao n c] w fun e w' => ∃ a' c', e = .returned (.slice a' n c') ∧ OwnS w' w.heap.size (.slice a' n c') xs ∧ Below w.heap.size w w' := by
  have h : Calls Try.prog 79 #[.slice ao n c] w fun e w' => ∃ v, e = .returned v ∧ OwnS w' w.heap.size v xs ∧ Below w.heap.size w w' := by
    rcases hr with rfl | ⟨b, o, rfl, hc⟩
    · simp at hx; subst hx; exact toStringS_nil _ _ _
    · exact toStringS_at b o n c xs w hx hn (by rw [← hx]; exact hc)
  refine h.mono ?_
  rintro e w' ⟨v, rfl, ho, hb⟩
  obtain ⟨a', c', hv⟩ := ho.shape
  rw [hx] at hv
  subst hv
  exact ⟨a', c', rfl, ho, hb⟩

theorem eqStringS_c (ao bo : Option Addr) (n m c d : Nat) (xs ys : List ByteArray) (w : World) (hx : xs.length = n) (hy : ys.length = m) (hn : n ≤ 17592186044416) (hm : m ≤ 17592186044416) (hr : RdS w ao xs) (hs : RdS w bo ys) :
    Calls Try.prog 47 #[.slice ao n c, .slice bo m d] w fun e w' => e = .returned (.bool (decide (xs = ys))) ∧ Below w.heap.size w w' := by
  by_cases hnm : n = m
  · subst hnm
    rcases hr with rfl | ⟨b, o, rfl, hc⟩
    · simp at hx; subst hx
      have : ys = [] := List.length_eq_zero_iff.1 hy
      subst this
      refine (eqStringS_nil ao bo c d w).mono ?_
      rintro e w' ⟨rfl, rfl⟩
      exact ⟨by simp, Below.refl _ _⟩
    · rcases hs with rfl | ⟨b', o', rfl, hc'⟩
      · simp at hy; subst hy
        have : xs = [] := List.length_eq_zero_iff.1 hx
        subst this
        refine (eqStringS_nil _ bo c d w).mono ?_
        rintro e w' ⟨rfl, rfl⟩
        exact ⟨by simp, Below.refl _ _⟩
      · exact eqStringS_at b o n c b' o' d xs ys w hx hy (by omega) (by rw [← hx]; exact hc) (by rw [← hy]; exact hc')
  · refine (eqStringS_ne ao bo n m c d w hnm (by omega) (by omega)).mono ?_
    rintro e w' ⟨rfl, rfl⟩
    refine ⟨?_, Below.refl _ _⟩
    have : xs ≠ ys := fun e => hnm (by rw [← hx, ← hy, e])
    simp [this]

theorem own_pushS {w w1 : World} {base : Nat} {v v' : Value} {out : List ByteArray} {x : ByteArray} (h : w1.ownsRow base 9 1 v' (out.length + 1) (cellsS out ++ [.string x])) : OwnS w1 base v' (out ++ [x]) := by
  unfold OwnS
  rw [show (out ++ [x]).length = out.length + 1 by simp]
  simpa [cellsS] using h
theorem own_block_geS {w : World} {base : Nat} {v : Value} {xs : List ByteArray} (h : OwnS w base v xs) : ∀ k, v.ownBlock = some k → base ≤ k := fun k hk => (World.ownsRow.lt h k hk).1


set_option maxHeartbeats 400000 in
theorem szStringS_at (b o n c : Nat) (left : Nat) (ss : List ByteArray) (w : World) (hx : ss.length = n) (hn : n ≤ 9223372036854775807) (hl : left ≤ 1048576) (hs : ∀ s ∈ ss, s.size ≤ 9223372036854775807)
    (hc : ∀ j, j < n → w.cell? ⟨b, o + j, none⟩ = some (.string (ss.getD j ByteArray.empty))) :
    Calls Try.prog 78 #[.slice (some ⟨b, o, none⟩) n c, .int .i64 left] w fun e w' => ∃ r : Int, e = .returned (.int .i64 r) ∧ w' = w ∧ r ≤ left ∧ (0 ≤ r → n ≤ 1048576) := by
  have HX : Hid (ss.length = n) := hx
  have HC : Hid (∀ j, j < n → w.cell? ⟨b, o + j, none⟩ = some (.string (ss.getD j ByteArray.empty))) := hc
  have HS : Hid (∀ s ∈ ss, s.size ≤ 9223372036854775807) := hs
  clear hx hc hs
  by_cases h1 : left < n
  · have hlt : (left : Int) - n < 0 := by omega
    go_enter Try.func78, Try.ntmps78
    go_wp2
    go_ret
    exact ⟨-1, rfl, rfl, by omega, fun h => by omega⟩
  · have hge : 0 ≤ (left : Int) - n := by omega
    go_enter Try.func78, Try.ntmps78
    go_wp2
    go_loop [1, 5] (fun lv i => ∃ (k q : Nat), k ≤ n ∧ i = .int .i64 k ∧ lv = .int .i64 q ∧ q ≤ left) (fun _ i => n - (intOf i).toNat)
    case atStart => exact ⟨0, left - n, Nat.zero_le _, rfl, by go_num, by omega⟩
    case round =>
      obtain ⟨k, q, hk, rfl, rfl, hq⟩ := hrel
      by_cases hlt : k < n
      · have g1 := HC.out k hlt
        have hsz := HS.out (ss.getD k ByteArray.empty) (by have h : k < ss.length := by rw [HX.out]; exact hlt
                                                           simp only [List.getD, List.getElem?_eq_getElem h, Option.getD_some]; exact List.getElem_mem _)
        generalize ss.getD k ByteArray.empty = s at g1 hsz
        by_cases h2 : q < s.size
        · have h3 : (q : Int) - s.size < 0 := by omega
          go_wp2
          go_ret
          exact ⟨-1, rfl, rfl, by omega, fun h => by omega⟩
        · have h3 : 0 ≤ (q : Int) - s.size := by omega
          go_wp2
          go_round
          case rel => exact ⟨k + 1, q - s.size, by omega, by go_num, by go_num, by omega⟩
          case measure => simp [intOf]; omega
      · go_wp2
        go_ret
        exact ⟨q, rfl, rfl, by omega, fun _ => by omega⟩

theorem szStringS_nil (ao : Option Addr) (c left : Nat) (w : World) (hl : left ≤ 1048576) :
    Calls Try.prog 78 #[.slice ao 0 c, .int .i64 left] w fun e w' => e = .returned (.int .i64 left) ∧ w' = w := by
  go_enter Try.func78, Try.ntmps78
  go_wp2
  refine wp_loop_rounds 1 ?_
  rw [rounds_succ]
  go_wp2
  go_ret
  exact ⟨rfl, rfl⟩

theorem szStringS_c (ao : Option Addr) (n c : Nat) (left : Nat) (ss : List ByteArray) (w : World) (hx : ss.length = n) (hn : n ≤ 9223372036854775807) (hl : left ≤ 1048576) (hs : ∀ s ∈ ss, s.size ≤ 9223372036854775807) (hr : RdS w ao ss) :
    Calls Try.prog 78 #[.slice ao n c, .int .i64 left] w fun e w' => ∃ r : Int, e = .returned (.int .i64 r) ∧ w' = w ∧ r ≤ left ∧ (0 ≤ r → n ≤ 1048576) := by
  rcases hr with rfl | ⟨b, o, rfl, hc⟩
  · simp at hx; subst hx
    refine (szStringS_nil ao c left w hl).mono ?_
    rintro e w' ⟨rfl, hw⟩
    exact ⟨left, rfl, hw, Int.le_refl _, fun _ => by omega⟩
  · exact szStringS_at b o n c left ss w hx hn hl hs (by rw [← hx]; exact hc)

/-- The digits that a mark is written with, ahead of what is there. -/
def digF (k : Nat) (out : ByteArray) : ByteArray :=
  if h : k = 0 then out else digF (k / 10) (strOfNums [((48 + k % 10 : Nat) : Int)] ++ out)
termination_by k
decreasing_by omega
def markT (k : Nat) : ByteArray := if k = 0 then ByteArray.mk #[109, 48] else ByteArray.mk #[109] ++ digF k ByteArray.empty
theorem digF_step {k : Nat} (h : k ≠ 0) (out : ByteArray) : digF k out = digF (k / 10) (strOfNums [((48 + k % 10 : Nat) : Int)] ++ out) := by
  rw [digF, dif_neg h]
theorem digF_zero (out : ByteArray) : digF 0 out = out := by rw [digF, dif_pos rfl]

set_option maxHeartbeats 1000000 in
theorem markText_c (k : Nat) (w : World) (h1 : k ≤ 9000000000000000000) :
    Calls Try.prog 81 #[.int .i64 k] w fun e w' => e = .returned (.string (markT k)) ∧ Below w.heap.size w w' := by
  unfold markT
  by_cases h0 : k = 0
  · subst h0
    rw [if_pos rfl]
    go_enter Try.func81, Try.ntmps81
    go_wp2
    go_ret
    exact ⟨rfl, Below.refl _ _⟩
  · rw [if_neg h0]
    have hk0 : (0 : Int) < k := by omega
    obtain ⟨R, hR⟩ : ∃ R, R = digF k ByteArray.empty := ⟨_, rfl⟩
    rw [← hR]
    have HR : Hid (R = digF k ByteArray.empty) := hR
    clear hR
    go_enter Try.func81, Try.ntmps81
    go_wp2
    go_loopw [0, 3] (fun kv ov wr => ∃ (j : Nat) (out : ByteArray), kv = .int .i64 j ∧ ov = .string out ∧ out.size + j ≤ 9000000000000000000 ∧ Hid (R = digF j out) ∧ Hid (Below w.heap.size w wr)) (fun kv _ _ => (intOf kv).toNat)
    case atStart => exact ⟨k, ByteArray.empty, rfl, rfl, by simpa using h1, HR, Below.refl _ _⟩
    case round =>
      clear HR
      obtain ⟨j, out, rfl, rfl, hj, hR, hB⟩ := hrel
      by_cases hz : j = 0
      · subst hz
        have HE : Hid (R = out) := by show _ = _; rw [hR.out, digF_zero]
        clear hR
        have hcat : (ByteArray.mk #[109]).size + out.size ≤ 9223372036854775807 := by rw [show (ByteArray.mk #[109]).size = 1 from rfl]; omega
        go_wp2
        go_ret
        exact ⟨by rw [HE.out]; rfl, hB.out⟩
      · have hj0 : (0 : Int) < j := by omega
        obtain ⟨D, hD⟩ : ∃ D : Nat, D = 48 + j % 10 := ⟨_, rfl⟩
        have hD1 : (48 + (j : Int) % 10) = (D : Int) := by omega
        have hD2 : (D : Int) % 256 = (D : Int) := by omega
        have HN : Hid (R = digF (j / 10) (strOfNums [(D : Int)] ++ out)) := by show _ = _; rw [hR.out, digF_step hz, hD]
        have hcv := run_convert_bytes_arg (P := Try.prog) (wr.alloc (.cells #[.int .u8 (D : Int)] 5)) 22 5 Try.underlying22 Try.underlying5 wr.heap.size 0 1 1 [(D : Int)] rfl (fun i hi => by
          obtain rfl : i = 0 := by omega
          simp) 9 Try.underlying9
        have hSs : (strOfNums [(D : Int)]).size = 1 := rfl
        generalize strOfNums [(D : Int)] = S at hcv HN hSs
        have hcat : S.size + out.size ≤ 9223372036854775807 := by omega
        clear hR hD
        go_wp2
        go_roundw
        case rel => exact ⟨j / 10, S ++ out, by go_num, rfl, by rw [ByteArray.size_append]; omega, HN, hB.out.alloc hB.out.size _⟩
        case measure => simp [intOf]; omega

/-- The marks of a row of n texts. -/
def marksS (k : Int) (n : Nat) : List ByteArray := (List.range n).map (fun j : Nat => markT (k.toNat + j))
theorem marksS_length (k : Int) (n : Nat) : (marksS k n).length = n := by simp [marksS]
theorem marksS_getD (k : Int) (n j : Nat) (h : j < n) : (marksS k n).getD j ByteArray.empty = markT (k.toNat + j) := by simp [marksS, List.getD, h]
theorem marksS_of (k : Int) (n : Nat) (ys : List ByteArray) (hl : ys.length = n) (h : ∀ j : Nat, j < n → ys.getD j ByteArray.empty = markT (k.toNat + j)) : ys = marksS k n := by
  refine List.ext_getElem (by rw [hl, marksS_length]) fun j h1 h2 => ?_
  have e1 := h j (by omega)
  have e2 := marksS_getD k n j (by omega)
  simp [List.getD, h1] at e1
  simp [List.getD, h2] at e2
  rw [e1, e2]
theorem grown_of_below {w w' : World} (h : Below w.heap.size w w') (row : Option Nat) : w.grownBy w' row := ⟨h.os, h.tape, h.output, h.size, fun q hq _ => h.block q hq⟩
theorem grown_trans {w a b : World} {row : Option Nat} (h : w.grownBy a row) (k : a.grownBy b row) : w.grownBy b row :=
  ⟨k.os.trans h.os, k.tape.trans h.tape, k.output.trans h.output, Nat.le_trans h.size k.size, fun i hi hne => (k.block i (Nat.lt_of_lt_of_le hi h.size) hne).trans (h.block i hi hne)⟩

set_option maxHeartbeats 800000 in
theorem markStringS_at (g n c : Nat) (k : Nat) (base : Nat) (xs : List ByteArray) (w : World) (hn : n ≤ 17592186044416) (hx : xs.length = n) (h1 : k ≤ 17592186044416) (ho : OwnS w base (.slice (some ⟨g, 0, none⟩) n c) xs) :
    Calls Try.prog 52 #[.slice (some ⟨g, 0, none⟩) n c, .int .i64 k] w fun e w' => e = .returned (.int .i64 ((k : Int) + n)) ∧ OwnS w' base (.slice (some ⟨g, 0, none⟩) n c) (marksS k n) ∧ w.grownBy w' (some g) := by
  have HO : Hid (∃ ys : List ByteArray, ys.length = n ∧ (∀ j : Nat, j < 0 → ys.getD j ByteArray.empty = markT (k + j)) ∧ w.ownsRow base 9 1 (.slice (some ⟨g, 0, none⟩) n c) n (cellsS ys)) := ⟨xs, hx, fun j h => absurd h (by omega), by rw [← hx]; rw [← hx] at ho; exact ho⟩
  clear ho hx
  go_enter Try.func52, Try.ntmps52
  go_wp2
  go_loopw [1, 5] (fun q i wr => ∃ p : Nat, p ≤ n ∧ i = .int .i64 p ∧ q = .int .i64 ((k : Int) + p) ∧ Hid (∃ ys : List ByteArray, ys.length = n ∧ (∀ j : Nat, j < p → ys.getD j ByteArray.empty = markT (k + j)) ∧ wr.ownsRow base 9 1 (.slice (some ⟨g, 0, none⟩) n c) n (cellsS ys)) ∧ Hid (w.grownBy wr (some g))) (fun _ i _ => n - (intOf i).toNat)
  case atStart => exact ⟨0, Nat.zero_le _, rfl, by go_num, HO, World.grownBy.refl _ _⟩
  case round =>
    clear HO
    obtain ⟨p, hp, rfl, rfl, hO, hgr⟩ := hrel
    by_cases hlt : p < n
    · obtain ⟨kp, hkp⟩ : ∃ kp : Nat, (k : Int) + p = kp := ⟨k + p, by omega⟩
      have hkp2 : kp = k + p := by omega
      have hmt := fun wx => markText_c kp wx (by omega)
      rw [hkp2] at hmt
      have HKP : Hid (kp = k + p) := hkp2
      generalize hM : markT (k + p) = M at hmt
      have HM : Hid (markT (k + p) = M) := hM
      clear hM hkp2
      have hmt2 : ∀ wx, Calls Try.prog 81 #[.int .i64 ((k : Int) + p)] wx fun e w' => e = .returned (.string M) ∧ Below wx.heap.size wx w' := fun wx => by
        have := hmt wx; rw [show (((k + p : Nat)) : Int) = (k : Int) + p by omega] at this; exact this
      clear hmt hkp
      go_wp2_with fail
      refine (hmt2 _).mono ?_
      rintro e w1 ⟨rfl, hb1⟩
      obtain ⟨ys, hyl, hyt, hyo0⟩ := hO.out
      have hyo : w1.ownsRow base 9 1 (.slice (some ⟨g, 0, none⟩) n c) n (cellsS ys) := by
        have h : OwnS wr base (.slice (some ⟨g, 0, none⟩) n c) ys := by unfold OwnS; rw [hyl]; exact hyo0
        have h2 := h.later hb1
        unfold OwnS at h2; rw [hyl] at h2; exact h2
      clear hO
      have g2 : w1.cell? ⟨g, p, none⟩ = some (.string (ys.getD p ByteArray.empty)) := by
        rw [World.ownsRow.cellAt hyo p (by omega)]; exact getD_map_str ys p (by omega)
      have g3 : w1.frozen? ⟨g, p, none⟩ = false := World.ownsRow.frozenAt hyo p
      have hst := World.ownsRow.stored hyo p (.string M)
      rw [cellsS_set] at hst
      have HS : Hid ((∃ zs : List ByteArray, zs.length = n ∧ (∀ j : Nat, j < p + 1 → zs.getD j ByteArray.empty = markT (k + j)) ∧ (w1.setCell ⟨g, p, none⟩ (.string M)).ownsRow base 9 1 (.slice (some ⟨g, 0, none⟩) n c) n (cellsS zs)) ∧ w.grownBy (w1.setCell ⟨g, p, none⟩ (.string M)) (some g)) :=
        ⟨⟨ys.set p M, by simpa using hyl, fun j hj => by
          by_cases e : j = p
          · subst e; rw [HM.out]; simp [List.getD, show j < ys.length by omega]
          · have := hyt j (by omega)
            rw [← this]; simp [List.getD, List.getElem?_set, show p ≠ j by omega], hst.1⟩, grown_trans hgr.out (grown_trans (grown_of_below hb1 _) hst.2)⟩
      clear hst hyo hyo0 hyt hyl hgr hb1 hmt2
      generalize hy : ys.getD p ByteArray.empty = y at g2
      clear hy
      go_wp2
      go_roundw
      case rel => exact ⟨p + 1, by omega, by go_num, by go_num, HS.out.1, HS.out.2⟩
      case measure => simp [intOf]; omega
    · go_wp2
      go_ret
      obtain ⟨ys, hyl, hyt, hyo⟩ := hO.out
      obtain rfl : p = n := by omega
      have e := marksS_of k p ys hyl (by simpa using hyt)
      subst e
      refine ⟨rfl, ?_, hgr.out⟩
      unfold OwnS
      rw [marksS_length]
      exact hyo

theorem markStringS_nil (ao : Option Addr) (c : Nat) (k : Int) (w : World) :
    Calls Try.prog 52 #[.slice ao 0 c, .int .i64 k] w fun e w' => e = .returned (.int .i64 k) ∧ w' = w := by
  go_enter Try.func52, Try.ntmps52
  go_wp2
  refine wp_loop_rounds 1 ?_
  rw [rounds_succ]
  go_wp2
  go_ret
  exact ⟨rfl, rfl⟩

theorem markStringS_c (ao : Option Addr) (n c : Nat) (k : Int) (base : Nat) (xs : List ByteArray) (w : World) (hn : n ≤ 17592186044416) (h0 : 0 ≤ k) (h1 : k ≤ 17592186044416) (ho : OwnS w base (.slice ao n c) xs) :
    Calls Try.prog 52 #[.slice ao n c, .int .i64 k] w fun e w' => e = .returned (.int .i64 (k + n)) ∧ OwnS w' base (.slice ao n c) (marksS k n) ∧ w.grownBy w' (Value.slice ao n c).ownBlock := by
  have hx := ho.rd'.1
  rcases ho.form with ⟨h, rfl⟩ | ⟨g, cap, h, hb, hg, hc⟩
  · simp only [Value.slice.injEq] at h
    obtain ⟨rfl, rfl, rfl⟩ := h
    refine (markStringS_nil none 0 k w).mono ?_
    rintro e w' ⟨rfl, rfl⟩
    exact ⟨by simp, ho, World.grownBy.refl _ _⟩
  · simp only [Value.slice.injEq] at h
    obtain ⟨rfl, _, _⟩ := h
    obtain ⟨q, rfl⟩ : ∃ q : Nat, k = q := ⟨k.toNat, by omega⟩
    exact markStringS_at g n c q base xs w hn hx (by omega) ho

set_option maxHeartbeats 800000 in
theorem heldStringS_at (g n c : Nat) (k : Nat) (w : World) (hn : n ≤ 17592186044416) (h1 : k ≤ 17592186044416) (hc : ∀ j, j < n → w.cell? ⟨g, j, none⟩ = some (.string (markT (k + j)))) :
    Calls Try.prog 55 #[.slice (some ⟨g, 0, none⟩) n c, .int .i64 k] w fun e w' => e = .returned (.int .i64 ((k : Int) + n)) ∧ Below w.heap.size w w' := by
  have HC : Hid (∀ j, j < n → w.cell? ⟨g, j, none⟩ = some (.string (markT (k + j)))) := hc
  clear hc
  go_enter Try.func55, Try.ntmps55
  go_wp2
  go_loopw [1, 5] (fun q i wr => ∃ p : Nat, p ≤ n ∧ i = .int .i64 p ∧ q = .int .i64 ((k : Int) + p) ∧ Hid (Below w.heap.size w wr)) (fun _ i _ => n - (intOf i).toNat)
  case atStart => exact ⟨0, Nat.zero_le _, rfl, by go_num, Below.refl _ _⟩
  case round =>
    obtain ⟨p, hp, rfl, rfl, hB⟩ := hrel
    by_cases hlt : p < n
    · have hcp := HC.out p hlt
      have hbx := World.block_lt_of_cell? w _ hcp
      have hmt2 : ∀ wx, Calls Try.prog 81 #[.int .i64 ((k : Int) + p)] wx fun e w' => e = .returned (.string (markT (k + p))) ∧ Below wx.heap.size wx w' := fun wx => by
        have := markText_c (k + p) wx (by omega); rw [show (((k + p : Nat)) : Int) = (k : Int) + p by omega] at this; exact this
      have g1 : wr.cell? ⟨g, p, none⟩ = some (.string (markT (k + p))) := by rw [hB.out.cell (p := ⟨g, p, none⟩) hbx]; exact hcp
      generalize markT (k + p) = M at hmt2 g1
      have hself : (M.toList == M.toList) = true := by simp
      have h0 : (0 : Int) ≤ (p : Int) := by omega
      have hl : (p : Int) < (n : Int) := by omega
      clear hcp hbx
      go_wp2
      go_region_with (go_at_call 81; refine (hmt2 _).mono ?_; rintro e w1 ⟨rfl, hb1⟩; have g1' : w1.cell? ⟨g, p, none⟩ = some (.string M) := cell_keep (S := 0) (by exact hb1) (by first | exact g1 | simpa using g1); have HB1 : Hid (Below w.heap.size w w1) := (by first | exact hB.out.trans (hb1.mono hB.out.size) | exact hB.out.drew.trans (hb1.mono hB.out.size)); clear hb1)
      all_goals go_wp2
      all_goals exact ⟨⟨p + 1, by omega, by go_num, by go_num, HB1⟩, by simp [intOf]; omega⟩
    · go_wp2
      go_ret
      obtain rfl : p = n := by omega
      exact ⟨rfl, hB.out⟩

theorem heldStringS_nil (ao : Option Addr) (c : Nat) (k : Int) (w : World) :
    Calls Try.prog 55 #[.slice ao 0 c, .int .i64 k] w fun e w' => e = .returned (.int .i64 k) ∧ w' = w := by
  go_enter Try.func55, Try.ntmps55
  go_wp2
  refine wp_loop_rounds 1 ?_
  rw [rounds_succ]
  go_wp2
  go_ret
  exact ⟨rfl, rfl⟩

theorem heldStringS_c (ao : Option Addr) (n c : Nat) (k : Int) (base : Nat) (w : World) (hn : n ≤ 17592186044416) (h0 : 0 ≤ k) (h1 : k ≤ 17592186044416) (ho : OwnS w base (.slice ao n c) (marksS k n)) :
    Calls Try.prog 55 #[.slice ao n c, .int .i64 k] w fun e w' => e = .returned (.int .i64 (k + n)) ∧ Below w.heap.size w w' := by
  rcases ho.form with ⟨h, h2⟩ | ⟨g, cap, h, hb, hg, hc⟩
  · simp only [Value.slice.injEq] at h
    obtain ⟨rfl, rfl, rfl⟩ := h
    refine (heldStringS_nil none 0 k w).mono ?_
    rintro e w' ⟨rfl, hw⟩
    subst w'
    exact ⟨by simp, Below.refl _ _⟩
  · simp only [Value.slice.injEq] at h
    obtain ⟨rfl, _, _⟩ := h
    obtain ⟨q, rfl⟩ : ∃ q : Nat, k = q := ⟨k.toNat, by omega⟩
    refine heldStringS_at g n c q w hn (by omega) fun j hj => ?_
    have e : (marksS q n).length = n := marksS_length q n
    have := OwnS.cell (g := g) (cap := c) (xs := marksS q n) (by rw [e]; exact ho) j (by omega)
    rw [marksS_getD q n j hj] at this
    simpa using this

end Go.Proofs.Yteopaocomfepfaa
