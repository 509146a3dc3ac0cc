/- The contract of the program's bigFrom. -/
import Derived.Test.YtaedplfihjfchaaImplAddh
import Derived.Test.YtaedplfihjfchaaSpecAdd3h
namespace Go.Proofs.Ytaedplfihjfchaa
set_option linter.unusedVariables false
set_option maxRecDepth 1000000
set_option linter.unusedSimpArgs false
open Go.RowKit

set_option maxHeartbeats 2000000 in
theorem bigFrom_c (a0 a1 a2 a3 a4 a5 : Int) (w : World) (p : Nat) (hp : (trim [a0, a1, a2, a3, a4, a5]).length = p) :
    Calls Try.prog 29 #[.agg #[.int .i64 a0, .int .i64 a1, .int .i64 a2, .int .i64 a3, .int .i64 a4, .int .i64 a5]] w fun e w' =>
      ∃ a' c', e = .returned (.agg #[.slice a' p c']) ∧ Own w' w.heap.size (.slice a' p c') (trim [a0, a1, a2, a3, a4, a5]) ∧ Below w.heap.size w w' := by
  obtain ⟨i0, hi, hz0, hz1, hz2⟩ := info_parts Try.infoInt
  go_enter Try.func29, Try.ntmps29
  generalize hL : [a0, a1, a2, a3, a4, a5] = L at *
  have HL : Hid ([a0, a1, a2, a3, a4, a5] = L) := hL
  have lL : Hid (L.length = 6) := by rw [← hL]; rfl
  have HP : Hid ((trim L).length = p) := hp
  clear hL hp
  go_wp2
  go_loopw [3] (fun v wr => ∃ k : Nat, k ≤ 6 ∧ v = .int .i64 k ∧ Hid (trim (L.take k) = trim L) ∧ Hid (OwnA 39 wr w.heap.size L) ∧ wr.cell? ⟨w.heap.size + 1, 0, none⟩ = some (.slice none 0 0) ∧ wr.frozen? ⟨w.heap.size + 1, 0, none⟩ = false ∧ Hid (Below w.heap.size w wr)) (fun v _ => (intOf v).toNat)
  case atStart =>
    refine ⟨6, by omega, rfl, ?_, ?_, by simp, by simp, below_two w _ _⟩
    · show trim _ = _
      rw [List.take_of_length_le (by rw [lL.out]; omega)]
    · exact (ownA_at _ _ _ L _ (by rw [← HL.out]; rfl) (by rw [lL.out]; omega) rfl).alloc _
  case round =>
    obtain ⟨k, hk, rfl, hT, hA, cR, fR, hB⟩ := hrel
    by_cases hz : k = 0
    · subst hz
      have ht : trim L = [] := by rw [← hT.out]; rfl
      have hp0 : p = 0 := by rw [← HP.out, ht]; rfl
      subst hp0
      have HT0 : Hid (trim L = []) := ht
      clear ht
      go_wp2
      refine bodyPost_ret (v := .agg #[.slice none 0 0]) (by simp [results, Try.results29, go_sem, cR]) rfl ⟨none, 0, rfl, ?_, hB.out.setCell (by simp) _⟩
      rw [HT0.out]
      exact World.ownsRow_nil _ _ _ _
    · obtain ⟨q, rfl⟩ : ∃ q, k = q + 1 := ⟨k - 1, by omega⟩
      have g1 := hA.out.cell q (by rw [lL.out]; omega)
      generalize hy : L.getD q 0 = y at g1
      have HY : Hid (L.getD q 0 = y) := hy
      clear hy hz
      by_cases hy0 : y = 0
      · subst hy0
        go_wp2
        go_roundw
        case rel => exact ⟨q, by omega, by go_num, by show trim _ = _; rw [← hT.out, take_snoc_getD L q (by rw [lL.out]; omega), HY.out, trim_snoc_zero], hA, cR, fR, hB⟩
        case measure => simp [intOf]
      · have ht : (y == 0) = false := by simpa using hy0
        have htt : trim L = L.take (q + 1) := by
          rw [← hT.out, take_snoc_getD L q (by rw [lL.out]; omega), HY.out, trim_snoc_nz _ _ hy0]
        have hpq : q + 1 = p := by rw [← HP.out, htt]; simp; rw [lL.out]; omega
        have HTT : Hid (trim L = L.take (q + 1)) := htt
        have HPQ : Hid (q + 1 = p) := hpq
        have lR := World.block_lt_of_cell? _ _ cR
        have hlen : wr.heap.size ≤ wr.heap.size := Nat.le_refl _
        clear htt hpq
        go_wp2_with (at_make; refine wpList_make_full _ rfl _ _ 23 rfl wr.heap.size 3 i0 (.int .i64 0) 1 Try.underlying23 hi hz0 hz1 _ _ _ _ (q + 1) rfl rfl (by omega) (by omega) (by rw [hz2]; omega) (by unfold maxLen; omega) (Nat.le_refl _) ?_; intro w0 hown0 hgrow0; have hB0 : Hid (Below w.heap.size w w0) := hB.out.grown hgrow0 hB.out.size (fun k h => by cases h); have hA0 : Hid (OwnA 39 w0 w.heap.size L) := World.ownsRow.kept (row := none) hA.out hgrow0 (Or.inr (by simp [Value.ownBlock])); have cR0 : w0.cell? ⟨w.heap.size + 1, 0, none⟩ = some (.slice none 0 0) := hgrow0.cell cR (by simp); have fR0 : w0.frozen? ⟨w.heap.size + 1, 0, none⟩ = false := (by rw [World.frozen?_of_block (w := wr) (hgrow0.block (w.heap.size + 1) lR (by simp))]; exact fR); have HO : Hid (∃ ys : List Int, ys.length = q + 1 ∧ ys.take 0 = L.take 0 ∧ w0.ownsRow wr.heap.size 3 1 (.slice (some ⟨wr.heap.size, 0, none⟩) (q + 1) (q + 1)) (q + 1) (cellsI ys)) := ⟨List.replicate (q + 1) 0, by simp, by simp, by rw [show cellsI (List.replicate (q + 1) 0) = (madeCells (Value.int .i64 0).cells ((q + 1) * 1)).toList from by rw [Nat.mul_one]; exact ((toList_madeCells_one _ _).trans (by simp [cellsI])).symm]; exact hown0⟩; clear hown0 hgrow0 hA cR fR hB)
        obtain ⟨wo, hwo⟩ : ∃ wo : Nat, wo = wr.heap.size := ⟨_, rfl⟩
        rw [← hwo] at HO lR ⊢
        have hlo : w.heap.size + 1 < wo := lR
        clear hwo lR hlen
        obtain ⟨wx, hwx⟩ : ∃ wx : World, wx = wr := ⟨_, rfl⟩
        clear hwx
        go_loopw [24] (fun i wr => ∃ k : Nat, k ≤ q + 1 ∧ i = .int .i64 k ∧ Hid (∃ ys : List Int, ys.length = q + 1 ∧ ys.take k = L.take k ∧ wr.ownsRow wo 3 1 (.slice (some ⟨wo, 0, none⟩) (q + 1) (q + 1)) (q + 1) (cellsI ys)) ∧ Hid (OwnA 39 wr w.heap.size L) ∧ wr.cell? ⟨w.heap.size + 1, 0, none⟩ = some (.slice none 0 0) ∧ wr.frozen? ⟨w.heap.size + 1, 0, none⟩ = false ∧ Hid (Below w.heap.size w wr)) (fun i _ => q + 1 - (intOf i).toNat)
        case atStart => exact ⟨0, by omega, rfl, HO, hA0, cR0, fR0, hB0⟩
        case round =>
          clear HO hA0 cR0 fR0 hB0
          obtain ⟨k, hk2, rfl, hO, hA, cR, fR, hB⟩ := hrel
          by_cases hlt : k < q + 1
          · obtain ⟨ys, hyl, hyt, hyo⟩ := hO.out
            clear hO
            have g1 := hA.out.cell k (by rw [lL.out]; omega)
            have g2 : wr.cell? ⟨wo, k, none⟩ = some (.int .i64 (ys.getD k 0)) := by
              rw [World.ownsRow.cellAt hyo k (by omega)]; exact getD_map_int ys k (by omega)
            have g3 : wr.frozen? ⟨wo, k, none⟩ = false := World.ownsRow.frozenAt hyo k
            have hst := World.ownsRow.stored hyo k (.int .i64 (L.getD k 0))
            rw [cellsI_set] at hst
            have HS : Hid (∃ zs : List Int, zs.length = q + 1 ∧ zs.take (k + 1) = L.take (k + 1) ∧ (wr.setCell ⟨wo, k, none⟩ (.int .i64 (L.getD k 0))).ownsRow wo 3 1 (.slice (some ⟨wo, 0, none⟩) (q + 1) (q + 1)) (q + 1) (cellsI zs)) :=
              ⟨ys.set k (L.getD k 0), by simpa using hyl, by
                refine take_eq_succ (by simp; omega) (by rw [lL.out]; omega) ?_ ?_
                · rw [List.take_set_of_le (Nat.le_refl _)]; exact hyt
                · simp [List.getD, show k < ys.length by omega], hst.1⟩
            clear hst hyo hyt hyl
            generalize L.getD k 0 = x at g1 HS
            generalize ys.getD k 0 = z at g2
            have hlt2 : (k : Int) < (q : Int) + 1 := by omega
            have k0 : (0 : Int) ≤ (k : Int) := by omega
            have k6 : (k : Int) < 6 := by omega
            go_wp2
            go_roundw
            case rel => exact ⟨k + 1, by omega, by go_num, HS, hA.out.other _ _ (by show _ ≠ _; first | (simp; done) | (simp; omega)), by rw [World.cell?_setCell_other _ _ _ _ (by first | (simp; done) | (simp; omega))]; exact cR, by simpa using fR, hB.out.setCell (by simp; omega) _⟩
            case measure => simp [intOf]; omega
          · obtain rfl : k = q + 1 := by omega
            obtain ⟨ys, hyl, hyt, hyo⟩ := hO.out
            have hye : ys = trim L := by
              rw [HTT.out, ← hyt, List.take_of_length_le (by omega)]
            have HO2 : Hid (Own wr wo (.slice (some ⟨wo, 0, none⟩) p (q + 1)) (trim L)) := by
              show World.ownsRow _ _ _ _ _ _ _
              rw [HP.out, ← hye, ← HPQ.out]; exact hyo
            have hend : ¬ ((q : Int) + 1 < (q : Int) + 1) := by omega
            clear hO hyo hye hyt hyl
            go_wp2
            refine bodyPost_ret (v := .agg #[.slice (some ⟨wo, 0, none⟩) p (q + 1)]) (by simp [results, Try.results29, go_sem, cR]; exact HPQ.out) rfl ⟨_, _, rfl, ?_, hB.out.setCell (by simp) _⟩
            exact (own_set_below HO2.out hlo _).mono (by omega)

end Go.Proofs.Ytaedplfihjfchaa
