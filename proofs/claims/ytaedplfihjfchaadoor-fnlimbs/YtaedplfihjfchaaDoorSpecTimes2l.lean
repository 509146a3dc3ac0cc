/- The contract of the specification's l1Times. -/
import Derived.Test.YtaedplfihjfchaaDoorNum2l
import Derived.Test.YtaedplfihjfchaaDoorBigOfl
namespace Go.Proofs.YtaedplfihjfchaaDoor
set_option linter.unusedVariables false
set_option maxRecDepth 1000000
set_option linter.unusedSimpArgs false
open Go.RowKit

set_option maxHeartbeats 2000000 in
theorem l1Times_c (ao bo : Option Addr) (n m c d : Nat) (xs ys : List Int) (w : World) (hx : xs.length = n) (hy : ys.length = m) (hn : n ≤ 100000000) (hm : m ≤ 100000000) (hr : Rd w ao xs) (hs : Rd w bo ys) (dx : Digs xs) (dy : Digs ys) (p : Nat) (hp : (bigL (val xs * val ys)).length = p) :
    Calls Tryd.prog 50 #[.slice ao n c, .slice bo m d] w fun e w' => ∃ a' c', e = .returned (.slice a' p c') ∧ Own w' w.heap.size (.slice a' p c') (bigL (val xs * val ys)) ∧ Below w.heap.size w w' := by
  obtain ⟨i0, hi, hz0, hz1, hz2⟩ := info_parts Tryd.infoInt
  have HX : Hid (xs.length = n) := hx
  have HY : Hid (ys.length = m) := hy
  have HR : Hid (Rd w ao xs) := hr
  have HS : Hid (Rd w bo ys) := hs
  have HD : Hid (Digs xs ∧ Digs ys) := ⟨dx, dy⟩
  have HP : Hid ((bigL (val xs * val ys)).length = p) := hp
  have HZ0 : Hid (OutSt xs ys 0 (List.replicate (xs.length + ys.length) 0)) := outSt_zero xs ys
  clear hx hy hr hs dx dy hp
  go_enter Tryd.func50, Tryd.ntmps50
  go_wp2_with (at_make; refine wpList_make_full _ rfl _ _ 23 rfl w.heap.size 3 i0 (.int .i64 0) 1 Tryd.underlying23 hi hz0 hz1 _ _ _ _ (n + m) rfl rfl (by omega) (by omega) (by rw [hz2]; omega) (by unfold maxLen; omega) (Nat.le_refl _) ?_; intro w0 hown0 hgrow0)
  have hb0 : Below w.heap.size w w0 := (Below.refl _ _).grown hgrow0 (Nat.le_refl _) (fun k h => by cases h)
  have HO0 : Hid (w0.ownsRow w.heap.size 3 1 (.slice (some ⟨w.heap.size, 0, none⟩) (n + m) (n + m)) (n + m) (cellsI (List.replicate (xs.length + ys.length) 0))) := by
    show World.ownsRow _ _ _ _ _ _ _
    rw [show cellsI (List.replicate (xs.length + ys.length) 0) = (madeCells (Value.int .i64 0).cells ((n + m) * 1)).toList from by rw [Nat.mul_one, HX.out, HY.out]; exact ((toList_madeCells_one _ _).trans (by simp [cellsI])).symm]
    exact hown0
  have HB0 : Hid (Below w.heap.size w w0) := hb0
  clear hown0 hgrow0 hb0
  go_wp2
  go_loopw [20] (fun iv wr => ∃ (i : Nat) (O : List Int), i ≤ n ∧ iv = .int .i64 i ∧ Hid (OutSt xs ys i O) ∧ Hid (wr.ownsRow w.heap.size 3 1 (.slice (some ⟨w.heap.size, 0, none⟩) (n + m) (n + m)) (n + m) (cellsI O)) ∧ Hid (Below w.heap.size w wr)) (fun iv _ => n - (intOf iv).toNat)
  case atStart => exact ⟨0, _, by omega, rfl, HZ0, HO0, HB0⟩
  case round =>
    clear HZ0 HO0 HB0
    obtain ⟨i, O, hin, rfl, hSt, hO, hB⟩ := hrel
    by_cases hlt : i < n
    · rcases HR.out with h0 | ⟨ba, oa, hao, hca⟩
      · have := HX.out; rw [h0] at this; simp at this; omega
      have g1 : wr.cell? ⟨ba, oa + i, none⟩ = some (.int .i64 (xs.getD i 0)) := by have := hca i (by rw [HX.out]; exact hlt); rw [hB.out.cell (p := ⟨ba, oa + i, none⟩) (World.block_lt_of_cell? w _ this)]; exact this
      subst hao
      have dX := HD.out.1.getD i
      generalize hgx : xs.getD i 0 = x at g1 dX
      have HGX : Hid (xs.getD i 0 = x) := hgx
      have HI0 : Hid (InSt O i x ys (val (O.take i ++ [val (O.drop i) + x * val ys])) 0 O 0) := outSt_in hSt.out x
      clear hgx hca
      go_wp2
      have HO1 : Hid (wr.ownsRow w.heap.size 3 1 (.slice (some ⟨w.heap.size, 0, none⟩) (n + m) (n + m)) (n + m) (cellsI O)) := hO
      have HB1 : Hid (Below w.heap.size w wr) := hB
      have HOL : Hid (O.length = n + m) := by show _ = _; rw [hSt.out.1, HX.out, HY.out]
      clear g1 hO hB
      obtain ⟨wo, rfl⟩ : ∃ wo : World, wo = wr := ⟨_, rfl⟩
      go_loopw [8, 27] (fun cv kv wr => ∃ (k : Nat) (cy : Int) (O' : List Int), k ≤ m ∧ kv = .int .i64 k ∧ cv = .int .i64 cy ∧ 0 ≤ cy ∧ cy < 65536 ∧ Hid (InSt O i x ys (val (O.take i ++ [val (O.drop i) + x * val ys])) k O' cy) ∧ Hid (wr.ownsRow w.heap.size 3 1 (.slice (some ⟨w.heap.size, 0, none⟩) (n + m) (n + m)) (n + m) (cellsI O')) ∧ Hid (Below w.heap.size w wr)) (fun _ kv _ => m - (intOf kv).toNat)
      case atStart => exact ⟨0, 0, O, by omega, rfl, rfl, by omega, by omega, HI0, HO1, HB1⟩
      case round =>
        clear HI0 HO1 HB1
        obtain ⟨k, cy, O', hk, rfl, rfl, c0, c1, hIn, hO, hB⟩ := hrel
        by_cases hlt2 : k < m
        · rcases HS.out with h0 | ⟨bb, ob, hbo, hcb⟩
          · have := HY.out; rw [h0] at this; simp at this; omega
          have g1 : wr.cell? ⟨bb, ob + k, none⟩ = some (.int .i64 (ys.getD k 0)) := by have := hcb k (by rw [HY.out]; exact hlt2); rw [hB.out.cell (p := ⟨bb, ob + k, none⟩) (World.block_lt_of_cell? w _ this)]; exact this
          subst hbo
          have hOl : O'.length = n + m := by rw [hIn.out.1, HOL.out]
          have g2 : wr.cell? ⟨w.heap.size, i + k, none⟩ = some (.int .i64 (O'.getD (i + k) 0)) := by
            rw [World.ownsRow.cellAt hO.out (i + k) (by omega)]; exact getD_map_int O' (i + k) (by omega)
          have g3 : wr.frozen? ⟨w.heap.size, i + k, none⟩ = false := World.ownsRow.frozenAt hO.out (i + k)
          have dY := HD.out.2.getD k
          have dV := hIn.out.2.1.getD (i + k)
          generalize hgy : ys.getD k 0 = y at g1 dY
          generalize hgv : O'.getD (i + k) 0 = v at g2 dV
          have hxy := prod_bd dX dY
          have HS1 : Hid (InSt O i x ys (val (O.take i ++ [val (O.drop i) + x * val ys])) (k + 1) (O'.set (i + k) ((v + x * y + cy) % 65536)) ((v + x * y + cy) / 65536)) := inSt_step hIn.out (by rw [HY.out]; exact hlt2) (by rw [HOL.out]; omega) hgy hgv rfl (by omega)
          have hst := (World.ownsRow.stored hO.out (i + k) (.int .i64 ((v + x * y + cy) % 65536))).1
          rw [cellsI_set] at hst
          have HST : Hid ((wr.setCell ⟨w.heap.size, i + k, none⟩ (.int .i64 ((v + x * y + cy) % 65536))).ownsRow w.heap.size 3 1 (.slice (some ⟨w.heap.size, 0, none⟩) (n + m) (n + m)) (n + m) (cellsI (O'.set (i + k) ((v + x * y + cy) % 65536)))) := hst
          clear hgy hgv hst hcb hOl
          go_wp2
          go_roundw
          case rel => exact ⟨k + 1, (v + x * y + cy) / 65536, O'.set (i + k) ((v + x * y + cy) % 65536), by omega, by go_num, rfl, by omega, by omega, HS1, HST, hB.out.setCell (Nat.le_refl _) _⟩
          case measure => simp [intOf]; omega
        · obtain rfl : k = m := by omega
          have hin2 := hIn.out
          rw [← HY.out] at hin2
          obtain ⟨hout, hgz⟩ := outSt_step hSt.out (by rw [HX.out]; exact hlt) HGX.out hin2 c0 c1
          rw [HY.out] at hout hgz
          have hOl : O'.length = n + k := by rw [hIn.out.1, HOL.out]
          have g2 : wr.cell? ⟨w.heap.size, i + k, none⟩ = some (.int .i64 (O'.getD (i + k) 0)) := by
            rw [World.ownsRow.cellAt hO.out (i + k) (by omega)]; exact getD_map_int O' (i + k) (by omega)
          rw [hgz] at g2
          have g3 : wr.frozen? ⟨w.heap.size, i + k, none⟩ = false := World.ownsRow.frozenAt hO.out (i + k)
          have hst := (World.ownsRow.stored hO.out (i + k) (.int .i64 cy)).1
          rw [cellsI_set] at hst
          have HST : Hid ((wr.setCell ⟨w.heap.size, i + k, none⟩ (.int .i64 cy)).ownsRow w.heap.size 3 1 (.slice (some ⟨w.heap.size, 0, none⟩) (n + k) (n + k)) (n + k) (cellsI (O'.set (i + k) cy))) := hst
          have HOUT : Hid (OutSt xs ys (i + 1) (O'.set (i + k) cy)) := hout
          clear hin2 hout hgz hst hOl
          go_wp2
          go_roundw
          case rel => exact ⟨i + 1, O'.set (i + k) cy, by omega, by go_num, HOUT, HST, hB.out.setCell (Nat.le_refl _) _⟩
          case measure => simp [intOf]; omega
    · obtain rfl : i = n := by omega
      have hv : val O = val xs * val ys := outSt_end (by rw [HX.out]; exact hSt.out)
      have hOl : O.length = i + m := by rw [hSt.out.1, HX.out, HY.out]
      have hOwn : Own wr w.heap.size (.slice (some ⟨w.heap.size, 0, none⟩) (i + m) (i + m)) O := by
        show World.ownsRow _ _ _ _ _ _ _
        rw [hOl]; exact hO.out
      have HOW : Hid (Own wr w.heap.size (.slice (some ⟨w.heap.size, 0, none⟩) (i + m) (i + m)) O) := hOwn
      have HDO : Hid (Digs O) := hSt.out.2.1
      have HV : Hid (val O = val xs * val ys) := hv
      clear hv hOl hOwn hO hSt
      go_wp2_with fail
      refine (l1Trim_c _ (i + m) (i + m) O _ (by omega) HOW.out.rdS).mono ?_
      have ht : trim O = bigL (val xs * val ys) := by rw [trim_bigL HDO.out, HV.out]
      have hO2 := HOW.out.trimmed
      rw [ht] at hO2
      rw [ht, HP.out]
      rw [HP.out] at hO2
      have HO2 : Hid (Own wr w.heap.size (.slice (some ⟨w.heap.size, 0, none⟩) p (i + m)) (bigL (val xs * val ys))) := hO2
      clear ht hO2
      rintro e w1 ⟨rfl, hw, _⟩
      subst w1
      go_wp2
      go_ret
      exact ⟨_, _, rfl, HO2.out, hB.out⟩

end Go.Proofs.YtaedplfihjfchaaDoor
namespace Go.Proofs.YtaedplfihjfchaaDoor
set_option linter.unusedVariables false
set_option maxRecDepth 1000000
set_option linter.unusedSimpArgs false
open Go.RowKit

def timesF (xs ys : List Int) : List Int × Bool := if goodB xs && goodB ys then tellF (val xs * val ys) else ([], false)

theorem val_mul_lt {xs ys : List Int} (dx : Digs xs) (dy : Digs ys) (lx : xs.length ≤ 6) (ly : ys.length ≤ 6) : val xs * val ys < 79228162514264337593543950336 * 79228162514264337593543950336 := by
  have h1 := val_lt6 dx lx
  have h2 := val_lt6 dy ly
  have h3 := val_nonneg dx
  have h4 := val_nonneg dy
  have e1 : val xs * val ys ≤ 79228162514264337593543950336 * val ys := Int.mul_le_mul_of_nonneg_right (by omega) h4
  omega

theorem timesF_short {xs ys zs : List Int} {fb : Bool} (h : timesF xs ys = (zs, fb)) : zs.length ≤ 6 := by
  cases hg : (goodB xs && goodB ys)
  · rw [timesF, hg] at h
    simp at h
    rw [h.1]; simp
  · rw [timesF, hg] at h
    simp only [if_true] at h
    simp at hg
    exact tellF_short (val_mul_nonneg (goodB_digs hg.1).2.1 (goodB_digs hg.2).2.1) h

end Go.Proofs.YtaedplfihjfchaaDoor
