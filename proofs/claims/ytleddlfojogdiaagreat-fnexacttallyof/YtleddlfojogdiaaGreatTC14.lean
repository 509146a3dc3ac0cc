/- Chapter 14: toClaimS, szClaimS. -/
import Derived.Test.YtleddlfojogdiaaGreatE12
import Derived.Deep.RegionWith
import Derived.Deep.RegionHeld3
namespace Go.Proofs.YtleddlfojogdiaaGreat
set_option linter.unusedVariables false
set_option maxRecDepth 1000000
set_option linter.unusedSimpArgs false
open Go.RowKit

theorem madeC : ∀ n : Nat, (madeCells (Value.agg #[.int .i64 0, .int .i64 0, .int .i64 0]).cells (n * 3)).toList = cellsC (List.replicate n (0, 0, 0)) := by
  intro n
  have hl : (cellsC (List.replicate n (0, 0, 0))).length = n * 3 := by rw [cellsC_length, List.length_replicate]
  refine List.ext_getElem? fun j => ?_
  by_cases hjn : j < n * 3
  · have hj : j / 3 < n := by omega
    have hc := cellsC_at (List.replicate n (0, 0, 0)) (j / 3) (by simpa using hj)
    have e0 : (List.replicate n ((0 : Int), (0 : Int), (0 : Int))).getD (j / 3) (0, 0, 0) = (0, 0, 0) := by simp [List.getD, hj]
    rw [e0] at hc
    have hm : (madeCells (Value.agg #[.int .i64 0, .int .i64 0, .int .i64 0]).cells (n * 3)).toList[j]? = some (#[.int .i64 0, .int .i64 0, .int .i64 0][j % 3]!) := by
      rw [Array.getElem?_toList]
      simp only [madeCells, Array.getElem?_map]
      rw [Array.getElem?_range]
      rw [if_pos hjn]
      rfl
    rw [hm]
    rcases (by omega : j % 3 = 0 ∨ j % 3 = 1 ∨ j % 3 = 2) with h | h | h
    · have h2 := hc.1
      rw [show j / 3 * 3 = j by omega] at h2
      rw [h2, h]; rfl
    · have h2 := hc.2.1
      rw [show j / 3 * 3 + 1 = j by omega] at h2
      rw [h2, h]; rfl
    · have h2 := hc.2.2
      rw [show j / 3 * 3 + 2 = j by omega] at h2
      rw [h2, h]; rfl
  · rw [List.getElem?_eq_none (by rw [Array.length_toList, size_madeCells]; omega), List.getElem?_eq_none (by omega)]

set_option maxHeartbeats 1000000 in
theorem toClaimS_at (b o n c : Nat) (xs : List (Int × Int × Int)) (w : World) (hx : xs.length = n) (hn : n ≤ 1048576) (hrx : RdC w (some ⟨b, o, none⟩) xs) :
    Calls Tryz.prog 19 #[.slice (some ⟨b, o, none⟩) n c] w fun e w' => ∃ v, e = .returned v ∧ OwnC w' w.heap.size v xs ∧ Below w.heap.size w w' := by
  obtain ⟨i0, hi, hz0, hz1, hz2⟩ := info_parts Tryz.infoClaim
  have HX : Hid (xs.length = n) := hx
  have HRX : Hid (RdC w (some ⟨b, o, none⟩) xs) := hrx
  clear hx hrx
  go_enter Tryz.func19, Tryz.ntmps19
  go_wp2_with (at_make; refine wpList_make_full _ rfl _ _ 23 rfl w.heap.size 32 i0 (.agg #[.int .i64 0, .int .i64 0, .int .i64 0]) 3 Tryz.underlying23 hi hz0 hz1 _ _ _ _ n rfl rfl rfl rfl (by rw [hz2]; omega) (by unfold maxLen; omega) (Nat.le_refl _) ?_; intro w0 hown0 hgrow0)
  have hb0 : Below w.heap.size w w0 := (Below.refl _ _).grown hgrow0 (Nat.le_refl _) (fun k h => by cases h)
  have HO : Hid (∃ ys : List (Int × Int × Int), ys.length = n ∧ ys.take 0 = xs.take 0 ∧ w0.ownsRow w.heap.size 32 3 (.slice (some ⟨w.heap.size, 0, none⟩) n n) n (cellsC ys)) := ⟨List.replicate n (0, 0, 0), by simp, by simp, by
    rw [← madeC]; exact hown0⟩
  clear hown0 hgrow0
  go_wp2
  go_loopw [4] (fun i wr => ∃ k : Nat, k ≤ n ∧ i = .int .i64 k ∧ Hid (∃ ys : List (Int × Int × Int), ys.length = n ∧ ys.take k = xs.take k ∧ wr.ownsRow w.heap.size 32 3 (.slice (some ⟨w.heap.size, 0, none⟩) n n) n (cellsC ys)) ∧ Hid (Below w.heap.size w wr)) (fun i _ => n - (intOf i).toNat)
  case atStart => exact ⟨0, Nat.zero_le _, rfl, HO, hb0⟩
  case round =>
    clear HO hb0
    obtain ⟨k, hk, rfl, hO, hbel⟩ := hrel
    by_cases hlt : k < n
    · obtain ⟨ys, hyl, hyt, hyo⟩ := hO.out
      clear hO
      obtain ⟨b1, o1, hb1, g0, g1, g2⟩ := (HRX.out.later hbel.out).get (k := k) (by rw [HX.out]; exact hlt)
      simp only [Option.some.injEq, Addr.mk.injEq] at hb1
      obtain ⟨rfl, rfl, _⟩ := hb1
      have HE : Hid (xs.getD k (0, 0, 0) = ((xs.getD k (0, 0, 0)).1, (xs.getD k (0, 0, 0)).2.1, (xs.getD k (0, 0, 0)).2.2)) := rfl
      generalize (xs.getD k (0, 0, 0)).1 = x0 at *
      generalize (xs.getD k (0, 0, 0)).2.1 = x1 at *
      generalize (xs.getD k (0, 0, 0)).2.2 = x2 at *
      have HY : Hid (ys.length = n ∧ ys.take k = xs.take k ∧ wr.ownsRow w.heap.size 32 3 (.slice (some ⟨w.heap.size, 0, none⟩) n n) n (cellsC ys)) := ⟨hyl, hyt, hyo⟩
      clear hyl hyt hyo
      go_wp2_with fail
      refine (toClaim_c x0 x1 x2 _).mono ?_
      rintro e w1 ⟨rfl, hb1⟩
      have hO1 : w1.ownsRow w.heap.size 32 3 (.slice (some ⟨w.heap.size, 0, none⟩) n n) n (cellsC ys) := ((OwnC.of HY.out.2.2 HY.out.1).later hb1).raw HY.out.1
      have c1 := cellsC_at ys k (by rw [HY.out.1]; exact hlt)
      have d0 : w1.cell? ⟨w.heap.size, k * 3, none⟩ = some (.int .i64 (ys.getD k (0, 0, 0)).1) := by rw [World.ownsRow.cellAt hO1 (k * 3) (by omega)]; exact c1.1
      have f0 : w1.frozen? ⟨w.heap.size, k * 3, none⟩ = false := World.ownsRow.frozenAt hO1 _
      have d1 : w1.cell? ⟨w.heap.size, k * 3 + 1, none⟩ = some (.int .i64 (ys.getD k (0, 0, 0)).2.1) := by rw [World.ownsRow.cellAt hO1 (k * 3 + 1) (by omega)]; exact c1.2.1
      have f1 : w1.frozen? ⟨w.heap.size, k * 3 + 1, none⟩ = false := World.ownsRow.frozenAt hO1 _
      have d2 : w1.cell? ⟨w.heap.size, k * 3 + 2, none⟩ = some (.int .i64 (ys.getD k (0, 0, 0)).2.2) := by rw [World.ownsRow.cellAt hO1 (k * 3 + 2) (by omega)]; exact c1.2.2
      have f2 : w1.frozen? ⟨w.heap.size, k * 3 + 2, none⟩ = false := World.ownsRow.frozenAt hO1 _
      have HB1 : Hid (Below w.heap.size w w1) := hbel.out.trans (hb1.mono hbel.out.size)
      have HO1 : Hid (w1.ownsRow w.heap.size 32 3 (.slice (some ⟨w.heap.size, 0, none⟩) n n) n (cellsC ys)) := hO1
      generalize (ys.getD k (0, 0, 0)).1 = z0 at d0
      generalize (ys.getD k (0, 0, 0)).2.1 = z1 at d1
      generalize (ys.getD k (0, 0, 0)).2.2 = z2 at d2
      clear hO1 c1 hb1 g0 g1 g2
      go_wp2
      go_roundw
      case rel =>
        have hst := (World.ownsRow.stored (World.ownsRow.stored (World.ownsRow.stored HO1.out (k * 3) (.int .i64 x0)).1 (k * 3 + 1) (.int .i64 x1)).1 (k * 3 + 2) (.int .i64 x2)).1
        rw [cellsC_set] at hst
        refine ⟨k + 1, by omega, by go_num, ⟨ys.set k (x0, x1, x2), by simpa using HY.out.1, ?_, hst⟩, (((HB1.out.setCell (Nat.le_refl _) _).setCell (Nat.le_refl _) _).setCell (Nat.le_refl _) _)⟩
        refine take_eq_succC (by simp; rw [HY.out.1]; omega) (by rw [HX.out]; omega) ?_ ?_
        · rw [List.take_set_of_le (Nat.le_refl _)]; exact HY.out.2.1
        · rw [HE.out]; simp [List.getD, show k < ys.length by rw [HY.out.1]; omega]
      case measure => simp [intOf]; omega
    · go_wp2
      go_ret
      obtain ⟨ys, hyl, hyt, hyo⟩ := hO.out
      have e : ys = xs := by
        rwa [List.take_of_length_le (by omega), List.take_of_length_le (by rw [HX.out]; omega)] at hyt
      subst e
      exact ⟨_, rfl, OwnC.of hyo hyl, hbel.out⟩

theorem toClaimS_nil (ao : Option Addr) (c : Nat) (w : World) :
    Calls Tryz.prog 19 #[.slice ao 0 c] w fun e w' => ∃ v, e = .returned v ∧ OwnC w' w.heap.size v [] ∧ Below w.heap.size w w' := by
  obtain ⟨i0, hi, hz0, hz1, hz2⟩ := info_parts Tryz.infoClaim
  go_enter Tryz.func19, Tryz.ntmps19
  go_wp2_with (at_make; refine wpList_make_full _ rfl _ _ 23 rfl w.heap.size 32 i0 (.agg #[.int .i64 0, .int .i64 0, .int .i64 0]) 3 Tryz.underlying23 hi hz0 hz1 _ _ _ _ 0 rfl rfl rfl rfl (by rw [hz2]; omega) (by unfold maxLen; omega) (Nat.le_refl _) ?_; intro w0 hown0 hgrow0)
  have hb0 : Below w.heap.size w w0 := (Below.refl _ _).grown hgrow0 (Nat.le_refl _) (fun k h => by cases h)
  refine wp_loop_rounds 1 ?_
  rw [rounds_succ]
  go_wp2
  go_ret
  exact ⟨_, rfl, by simpa [OwnC, cellsC, madeCells] using hown0, hb0⟩

theorem toClaimS_c (ao : Option Addr) (n c : Nat) (xs : List (Int × Int × Int)) (w : World) (hx : xs.length = n) (hn : n ≤ 1048576) (hr : RdC w ao xs) :
    Calls Tryz.prog 19 #[.slice ao n c] w fun e w' => ∃ a' c', e = .returned (.slice a' n c') ∧ OwnC w' w.heap.size (.slice a' n c') xs ∧ Below w.heap.size w w' := by
  have h : Calls Tryz.prog 19 #[.slice ao n c] w fun e w' => ∃ v, e = .returned v ∧ OwnC w' w.heap.size v xs ∧ Below w.heap.size w w' := by
    by_cases h0 : n = 0
    · subst h0
      have e1 : xs = [] := List.length_eq_zero_iff.1 hx
      subst e1
      exact toClaimS_nil _ _ _
    · obtain ⟨b, o, rfl, _⟩ := hr.get (k := 0) (by omega)
      exact toClaimS_at b o n c xs w hx hn hr
  refine h.mono ?_
  rintro e w' ⟨v, rfl, ho, hb⟩
  obtain ⟨a', c', hv⟩ := ho.shape
  rw [hx] at hv
  subst hv
  exact ⟨a', c', rfl, ho, hb⟩

theorem szClaimS_c (ao : Option Addr) (n c : Nat) (left : Nat) (w : World) (hn : n ≤ 9223372036854775807) (hl : left ≤ 1048576) :
    Calls Tryz.prog 17 #[.slice ao n c, .int .i64 left] w fun e w' => ∃ r : Int, e = .returned (.int .i64 r) ∧ w' = w ∧ r ≤ left ∧ (0 ≤ r → n ≤ 1048576 ∧ r + n = left) := by
  by_cases h1 : left < n
  · have hlt : (left : Int) - n < 0 := by omega
    go_enter Tryz.func17, Tryz.ntmps17
    go_wp2
    go_ret
    exact ⟨-1, rfl, rfl, by omega, fun h => by omega⟩
  · have hge : 0 ≤ (left : Int) - n := by omega
    go_enter Tryz.func17, Tryz.ntmps17
    go_wp2
    go_ret
    exact ⟨(left : Int) - n, rfl, rfl, by omega, fun h => by omega⟩

end Go.Proofs.YtleddlfojogdiaaGreat
