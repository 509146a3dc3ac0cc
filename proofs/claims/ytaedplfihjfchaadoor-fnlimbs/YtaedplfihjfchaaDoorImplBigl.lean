/- The contract of the specification's AddBig. -/
import Derived.Test.YtaedplfihjfchaaDoorSpecTelll
import Derived.Test.YtaedplfihjfchaaDoorImplAddl
namespace Go.Proofs.YtaedplfihjfchaaDoor
set_option linter.unusedVariables false
set_option maxRecDepth 1000000
set_option linter.unusedSimpArgs false
open Go.RowKit

def addF (xs ys : List Int) : List Int × Bool := if goodB xs && goodB ys then tellF (val xs + val ys) else ([], false)

theorem fcell_keep {w1 w2 : World} (hb : Below w1.heap.size w1 w2) {g o : Nat} (hg : g < w1.heap.size) {b : Bool} (h : w1.frozen? ⟨g, o, none⟩ = b) : w2.frozen? ⟨g, o, none⟩ = b := by
  rw [hb.frozen (p := ⟨g, o, none⟩) hg]; exact h

theorem own_set_below {w : World} {base : Nat} {v : Value} {xs : List Int} (h : Own w base v xs) {g o : Nat} (hg : g < base) (u : Value) : Own (w.setCell ⟨g, o, none⟩ u) base v xs := ownsRow_setCell_below h (a := ⟨g, o, none⟩) hg u

theorem fz3 (w : World) (cs cs' cs'' : Array Value) (t t' t'' : TypeId) : (((w.alloc (.cells cs t)).alloc (.cells cs' t')).alloc (.cells cs'' t'')).frozen? ⟨w.heap.size + 1 + 1, 0, none⟩ = false := by
  rw [World.frozen?_alloc_at _ _ _ _ (by simp)]

set_option maxHeartbeats 1000000 in
theorem specAdd_c (ao bo : Option Addr) (n m c d : Nat) (xs ys : List Int) (w : World) (hx : xs.length = n) (hy : ys.length = m) (hn : n ≤ 17592186044416) (hm : m ≤ 17592186044416) (hr : Rd w ao xs) (hs : Rd w bo ys) (zs : List Int) (fb : Bool) (p : Nat) (hF : addF xs ys = (zs, fb)) (hp : zs.length = p) :
    Calls Tryd.prog 6 #[.agg #[.slice ao n c], .agg #[.slice bo m d]] w fun e w' => ∃ a' c', e = .returned (.tuple #[.agg #[.slice a' p c'], .bool fb]) ∧ Own w' w.heap.size (.slice a' p c') zs ∧ Below w.heap.size w w' := by
  have HX : Hid (xs.length = n) := hx
  have HY : Hid (ys.length = m) := hy
  have HR : Hid (Rd w ao xs) := hr
  have HS : Hid (Rd w bo ys) := hs
  have HP : Hid (zs.length = p) := hp
  have HB0 : Hid (Below w.heap.size w (((w.alloc (Obj.cells #[Value.slice ao n c] 25)).alloc (Obj.cells #[Value.slice bo m d] 25)).alloc (Obj.cells #[Value.slice none 0 0] 25))) := below_three w _ _ _
  clear hx hy hr hs hp
  cases hg : (goodB xs && goodB ys)
  · rw [addF, hg] at hF
    simp only [Bool.false_eq_true, if_false, Prod.mk.injEq] at hF
    obtain ⟨rfl, rfl⟩ := hF
    have hp0 := HP.out
    simp at hp0
    subst hp0
    go_enter Tryd.func6, Tryd.ntmps6
    go_wp2_with fail
    refine (l1Both_c ao bo n m c d xs ys _ HX.out HY.out hn hm (HR.out.later HB0.out) (HS.out.later HB0.out)).mono ?_
    rw [hg]
    rintro e w1 ⟨rfl, hb⟩
    have HB1 : Hid (Below w.heap.size w w1) := HB0.out.trans (hb.mono (by simp; omega))
    have r1 : w1.cell? ⟨w.heap.size + 1 + 1, 0, none⟩ = some (.slice none 0 0) := cell_keep (S := 0) hb (by rw [World.cell?_alloc_at _ _ _ _ (by simp)]; rfl)
    have f1 : w1.frozen? ⟨w.heap.size + 1 + 1, 0, none⟩ = false := fcell_keep hb (by simp) (fz3 _ _ _ _ _ _ _)
    clear hb hg
    go_wp2
    refine bodyPost_ret (v := .tuple #[.agg #[.slice none 0 0], .bool false]) (by simp [results, Tryd.results6, go_sem, r1]) rfl ⟨none, 0, rfl, World.ownsRow_nil _ _ _ _, ?_⟩
    exact HB1.out.setCell (by simp; omega) _
  · rw [addF, hg] at hF
    simp only [if_true] at hF
    have HF : Hid (tellF (val xs + val ys) = (zs, fb)) := hF
    have HG : Hid (goodB xs = true ∧ goodB ys = true) := by have h := hg; simp at h; exact h
    have hn6 : n ≤ 6 := by have := (goodB_digs HG.out.1).1; rw [HX.out] at this; exact this
    have hm6 : m ≤ 6 := by have := (goodB_digs HG.out.2).1; rw [HY.out] at this; exact this
    clear hF
    go_enter Tryd.func6, Tryd.ntmps6
    go_wp2_with fail
    refine (l1Both_c ao bo n m c d xs ys _ HX.out HY.out hn hm (HR.out.later HB0.out) (HS.out.later HB0.out)).mono ?_
    rw [hg]
    rintro e w1 ⟨rfl, hb⟩
    have HB1 : Hid (Below w.heap.size w w1) := HB0.out.trans (hb.mono (by simp; omega))
    have x1 : w1.cell? ⟨w.heap.size, 0, none⟩ = some (.slice ao n c) := cell_keep (S := 0) hb (calloc (calloc (by simp)))
    have y1 : w1.cell? ⟨w.heap.size + 1, 0, none⟩ = some (.slice bo m d) := cell_keep (S := 0) hb (calloc (by simp))
    have r1 : w1.cell? ⟨w.heap.size + 1 + 1, 0, none⟩ = some (.slice none 0 0) := cell_keep (S := 0) hb (by rw [World.cell?_alloc_at _ _ _ _ (by simp)]; rfl)
    have f1 : w1.frozen? ⟨w.heap.size + 1 + 1, 0, none⟩ = false := fcell_keep hb (by simp) (fz3 _ _ _ _ _ _ _)
    have l1 : w.heap.size + 1 + 1 < w1.heap.size := World.block_lt_of_cell? _ _ r1
    clear hb hg
    have dx := (goodB_digs HG.out.1).2.1
    have dy := (goodB_digs HG.out.2).2.1
    have v0 := val_nonneg dx
    have v1 := val_nonneg dy
    obtain ⟨q, hq⟩ : ∃ q, (bigL (val xs + val ys)).length = q := ⟨_, rfl⟩
    have HQ : Hid ((bigL (val xs + val ys)).length = q) := hq
    have hq7 : q ≤ 1000000000 := by
      rw [← hq]
      have h1 := val_lt6 dx (goodB_digs HG.out.1).1
      have h2 := val_lt6 dy (goodB_digs HG.out.2).1
      exact bigL_short (by omega) (by omega)
    have HD : Hid (Digs (bigL (val xs + val ys)) ∧ val (bigL (val xs + val ys)) = val xs + val ys) := ⟨(bigL_spec (by omega)).1, (bigL_spec (by omega)).2.1⟩
    have HXY : Hid (Digs xs ∧ Digs ys) := ⟨dx, dy⟩
    clear dx dy v0 v1 hq
    go_wp2_with fail
    refine (l1Add_c ao bo n m c d xs ys _ HX.out HY.out (by omega) (by omega) (HR.out.later HB1.out) (HS.out.later HB1.out) HXY.out.1 HXY.out.2 q HQ.out).mono ?_
    rintro e w2 ⟨a2, c2, rfl, ho, hb⟩
    have HB2 : Hid (Below w.heap.size w w2) := HB1.out.trans (hb.mono HB1.out.size)
    have r2 : w2.cell? ⟨w.heap.size + 1 + 1, 0, none⟩ = some (.slice none 0 0) := cell_keep (S := 0) hb r1
    have f2 : w2.frozen? ⟨w.heap.size + 1 + 1, 0, none⟩ = false := fcell_keep hb l1 f1
    have l2 : w.heap.size + 1 + 1 < w2.heap.size := World.block_lt_of_cell? _ _ r2
    have HO2 : Hid (Own w2 w1.heap.size (.slice a2 q c2) (bigL (val xs + val ys))) := ho
    clear hb ho r1 f1 x1 y1 l1
    go_wp2_with fail
    refine (l1Tell_c a2 q c2 (bigL (val xs + val ys)) _ (by omega) HO2.out.rdS HD.out.1 zs fb p (by rw [HD.out.2]; exact HF.out) HP.out).mono ?_
    rintro e w3 ⟨a3, c3, rfl, ho, hb⟩
    have HB3 : Hid (Below w.heap.size w w3) := HB2.out.trans (hb.mono HB2.out.size)
    have r3 : w3.cell? ⟨w.heap.size + 1 + 1, 0, none⟩ = some (.slice none 0 0) := cell_keep (S := 0) hb r2
    have f3 : w3.frozen? ⟨w.heap.size + 1 + 1, 0, none⟩ = false := fcell_keep hb l2 f2
    have HO3 : Hid (Own w3 w2.heap.size (.slice a3 p c3) zs) := ho
    clear hb ho r2 f2
    go_wp2
    refine bodyPost_ret (v := .tuple #[.agg #[.slice a3 p c3], .bool fb]) (by simp [results, Tryd.results6, go_sem, r3]) rfl ⟨a3, c3, rfl, ?_, ?_⟩
    · exact (own_set_below HO3.out (by omega) _).mono (by omega)
    · exact HB3.out.setCell (by simp; omega) _

end Go.Proofs.YtaedplfihjfchaaDoor
namespace Go.Proofs.YtaedplfihjfchaaDoor
set_option linter.unusedVariables false
set_option maxRecDepth 1000000
set_option linter.unusedSimpArgs false
open Go.RowKit

set_option maxHeartbeats 2000000 in
theorem bigFrom_c (a0 a1 a2 a3 a4 a5 : Int) (w : World) (p : Nat) (hp : (trim [a0, a1, a2, a3, a4, a5]).length = p) :
    Calls Tryd.prog 30 #[.agg #[.int .i64 a0, .int .i64 a1, .int .i64 a2, .int .i64 a3, .int .i64 a4, .int .i64 a5]] w fun e w' =>
      ∃ a' c', e = .returned (.agg #[.slice a' p c']) ∧ Own w' w.heap.size (.slice a' p c') (trim [a0, a1, a2, a3, a4, a5]) ∧ Below w.heap.size w w' := by
  obtain ⟨i0, hi, hz0, hz1, hz2⟩ := info_parts Tryd.infoInt
  go_enter Tryd.func30, Tryd.ntmps30
  generalize hL : [a0, a1, a2, a3, a4, a5] = L at *
  have HL : Hid ([a0, a1, a2, a3, a4, a5] = L) := hL
  have lL : Hid (L.length = 6) := by rw [← hL]; rfl
  have HP : Hid ((trim L).length = p) := hp
  clear hL hp
  go_wp2
  go_loopw [3] (fun v wr => ∃ k : Nat, k ≤ 6 ∧ v = .int .i64 k ∧ Hid (trim (L.take k) = trim L) ∧ Hid (OwnA 53 wr w.heap.size L) ∧ wr.cell? ⟨w.heap.size + 1, 0, none⟩ = some (.slice none 0 0) ∧ wr.frozen? ⟨w.heap.size + 1, 0, none⟩ = false ∧ Hid (Below w.heap.size w wr)) (fun v _ => (intOf v).toNat)
  case atStart =>
    refine ⟨6, by omega, rfl, ?_, ?_, by simp, by simp, below_two w _ _⟩
    · show trim _ = _
      rw [List.take_of_length_le (by rw [lL.out]; omega)]
    · exact (ownA_at _ _ _ L _ (by rw [← HL.out]; rfl) (by rw [lL.out]; omega) rfl).alloc _
  case round =>
    obtain ⟨k, hk, rfl, hT, hA, cR, fR, hB⟩ := hrel
    by_cases hz : k = 0
    · subst hz
      have ht : trim L = [] := by rw [← hT.out]; rfl
      have hp0 : p = 0 := by rw [← HP.out, ht]; rfl
      subst hp0
      have HT0 : Hid (trim L = []) := ht
      clear ht
      go_wp2
      refine bodyPost_ret (v := .agg #[.slice none 0 0]) (by simp [results, Tryd.results30, go_sem, cR]) rfl ⟨none, 0, rfl, ?_, hB.out.setCell (by simp) _⟩
      rw [HT0.out]
      exact World.ownsRow_nil _ _ _ _
    · obtain ⟨q, rfl⟩ : ∃ q, k = q + 1 := ⟨k - 1, by omega⟩
      have g1 := hA.out.cell q (by rw [lL.out]; omega)
      generalize hy : L.getD q 0 = y at g1
      have HY : Hid (L.getD q 0 = y) := hy
      clear hy hz
      by_cases hy0 : y = 0
      · subst hy0
        go_wp2
        go_roundw
        case rel => exact ⟨q, by omega, by go_num, by show trim _ = _; rw [← hT.out, take_snoc_getD L q (by rw [lL.out]; omega), HY.out, trim_snoc_zero], hA, cR, fR, hB⟩
        case measure => simp [intOf]
      · have ht : (y == 0) = false := by simpa using hy0
        have htt : trim L = L.take (q + 1) := by
          rw [← hT.out, take_snoc_getD L q (by rw [lL.out]; omega), HY.out, trim_snoc_nz _ _ hy0]
        have hpq : q + 1 = p := by rw [← HP.out, htt]; simp; rw [lL.out]; omega
        have HTT : Hid (trim L = L.take (q + 1)) := htt
        have HPQ : Hid (q + 1 = p) := hpq
        have lR := World.block_lt_of_cell? _ _ cR
        have hlen : wr.heap.size ≤ wr.heap.size := Nat.le_refl _
        clear htt hpq
        go_wp2_with (at_make; refine wpList_make_full _ rfl _ _ 23 rfl wr.heap.size 3 i0 (.int .i64 0) 1 Tryd.underlying23 hi hz0 hz1 _ _ _ _ (q + 1) rfl rfl (by omega) (by omega) (by rw [hz2]; omega) (by unfold maxLen; omega) (Nat.le_refl _) ?_; intro w0 hown0 hgrow0; have hB0 : Hid (Below w.heap.size w w0) := hB.out.grown hgrow0 hB.out.size (fun k h => by cases h); have hA0 : Hid (OwnA 53 w0 w.heap.size L) := World.ownsRow.kept (row := none) hA.out hgrow0 (Or.inr (by simp [Value.ownBlock])); have cR0 : w0.cell? ⟨w.heap.size + 1, 0, none⟩ = some (.slice none 0 0) := hgrow0.cell cR (by simp); have fR0 : w0.frozen? ⟨w.heap.size + 1, 0, none⟩ = false := (by rw [World.frozen?_of_block (w := wr) (hgrow0.block (w.heap.size + 1) lR (by simp))]; exact fR); have HO : Hid (∃ ys : List Int, ys.length = q + 1 ∧ ys.take 0 = L.take 0 ∧ w0.ownsRow wr.heap.size 3 1 (.slice (some ⟨wr.heap.size, 0, none⟩) (q + 1) (q + 1)) (q + 1) (cellsI ys)) := ⟨List.replicate (q + 1) 0, by simp, by simp, by rw [show cellsI (List.replicate (q + 1) 0) = (madeCells (Value.int .i64 0).cells ((q + 1) * 1)).toList from by rw [Nat.mul_one]; exact ((toList_madeCells_one _ _).trans (by simp [cellsI])).symm]; exact hown0⟩; clear hown0 hgrow0 hA cR fR hB)
        obtain ⟨wo, hwo⟩ : ∃ wo : Nat, wo = wr.heap.size := ⟨_, rfl⟩
        rw [← hwo] at HO lR ⊢
        have hlo : w.heap.size + 1 < wo := lR
        clear hwo lR hlen
        obtain ⟨wx, hwx⟩ : ∃ wx : World, wx = wr := ⟨_, rfl⟩
        clear hwx
        go_loopw [24] (fun i wr => ∃ k : Nat, k ≤ q + 1 ∧ i = .int .i64 k ∧ Hid (∃ ys : List Int, ys.length = q + 1 ∧ ys.take k = L.take k ∧ wr.ownsRow wo 3 1 (.slice (some ⟨wo, 0, none⟩) (q + 1) (q + 1)) (q + 1) (cellsI ys)) ∧ Hid (OwnA 53 wr w.heap.size L) ∧ wr.cell? ⟨w.heap.size + 1, 0, none⟩ = some (.slice none 0 0) ∧ wr.frozen? ⟨w.heap.size + 1, 0, none⟩ = false ∧ Hid (Below w.heap.size w wr)) (fun i _ => q + 1 - (intOf i).toNat)
        case atStart => exact ⟨0, by omega, rfl, HO, hA0, cR0, fR0, hB0⟩
        case round =>
          clear HO hA0 cR0 fR0 hB0
          obtain ⟨k, hk2, rfl, hO, hA, cR, fR, hB⟩ := hrel
          by_cases hlt : k < q + 1
          · obtain ⟨ys, hyl, hyt, hyo⟩ := hO.out
            clear hO
            have g1 := hA.out.cell k (by rw [lL.out]; omega)
            have g2 : wr.cell? ⟨wo, k, none⟩ = some (.int .i64 (ys.getD k 0)) := by
              rw [World.ownsRow.cellAt hyo k (by omega)]; exact getD_map_int ys k (by omega)
            have g3 : wr.frozen? ⟨wo, k, none⟩ = false := World.ownsRow.frozenAt hyo k
            have hst := World.ownsRow.stored hyo k (.int .i64 (L.getD k 0))
            rw [cellsI_set] at hst
            have HS : Hid (∃ zs : List Int, zs.length = q + 1 ∧ zs.take (k + 1) = L.take (k + 1) ∧ (wr.setCell ⟨wo, k, none⟩ (.int .i64 (L.getD k 0))).ownsRow wo 3 1 (.slice (some ⟨wo, 0, none⟩) (q + 1) (q + 1)) (q + 1) (cellsI zs)) :=
              ⟨ys.set k (L.getD k 0), by simpa using hyl, by
                refine take_eq_succ (by simp; omega) (by rw [lL.out]; omega) ?_ ?_
                · rw [List.take_set_of_le (Nat.le_refl _)]; exact hyt
                · simp [List.getD, show k < ys.length by omega], hst.1⟩
            clear hst hyo hyt hyl
            generalize L.getD k 0 = x at g1 HS
            generalize ys.getD k 0 = z at g2
            have hlt2 : (k : Int) < (q : Int) + 1 := by omega
            have k0 : (0 : Int) ≤ (k : Int) := by omega
            have k6 : (k : Int) < 6 := by omega
            go_wp2
            go_roundw
            case rel => exact ⟨k + 1, by omega, by go_num, HS, hA.out.other _ _ (by show _ ≠ _; first | (simp; done) | (simp; omega)), by rw [World.cell?_setCell_other _ _ _ _ (by first | (simp; done) | (simp; omega))]; exact cR, by simpa using fR, hB.out.setCell (by simp; omega) _⟩
            case measure => simp [intOf]; omega
          · obtain rfl : k = q + 1 := by omega
            obtain ⟨ys, hyl, hyt, hyo⟩ := hO.out
            have hye : ys = trim L := by
              rw [HTT.out, ← hyt, List.take_of_length_le (by omega)]
            have HO2 : Hid (Own wr wo (.slice (some ⟨wo, 0, none⟩) p (q + 1)) (trim L)) := by
              show World.ownsRow _ _ _ _ _ _ _
              rw [HP.out, ← hye, ← HPQ.out]; exact hyo
            have hend : ¬ ((q : Int) + 1 < (q : Int) + 1) := by omega
            clear hO hyo hye hyt hyl
            go_wp2
            refine bodyPost_ret (v := .agg #[.slice (some ⟨wo, 0, none⟩) p (q + 1)]) (by simp [results, Tryd.results30, go_sem, cR]; exact HPQ.out) rfl ⟨_, _, rfl, ?_, hB.out.setCell (by simp) _⟩
            exact (own_set_below HO2.out hlo _).mono (by omega)

end Go.Proofs.YtaedplfihjfchaaDoor
