/- The contracts of the specification's l1Both, l1Compare and CompareBig. -/
import Derived.Test.YtaedplfihjfchaaDoorImplAddl
namespace Go.Proofs.YtaedplfihjfchaaDoor
set_option linter.unusedVariables false
set_option maxRecDepth 1000000
set_option linter.unusedSimpArgs false
open Go.RowKit

theorem l1Compare_lt (ao bo : Option Addr) (n m c d : Nat) (w : World) (h : n < m) (hn : n ≤ 17592186044416) (hm : m ≤ 17592186044416) :
    Calls Tryd.prog 57 #[.slice ao n c, .slice bo m d] w fun e w' => e = .returned (.int .i64 (-1)) ∧ w' = w := by
  have hx : ((n : Int) != (m : Int)) = true := by rw [bne_iff_ne]; omega
  have hl : (n : Int) < (m : Int) := by omega
  go_enter Tryd.func57, Tryd.ntmps57
  go_wp2
  go_ret
  exact ⟨rfl, rfl⟩

theorem l1Compare_gt (ao bo : Option Addr) (n m c d : Nat) (w : World) (h : m < n) (hn : n ≤ 17592186044416) (hm : m ≤ 17592186044416) :
    Calls Tryd.prog 57 #[.slice ao n c, .slice bo m d] w fun e w' => e = .returned (.int .i64 1) ∧ w' = w := by
  have hx : ((n : Int) != (m : Int)) = true := by rw [bne_iff_ne]; omega
  have hl : ¬ (n : Int) < (m : Int) := by omega
  go_enter Tryd.func57, Tryd.ntmps57
  go_wp2
  go_ret
  exact ⟨rfl, rfl⟩

theorem l1Compare_nil (ao bo : Option Addr) (c d : Nat) (w : World) :
    Calls Tryd.prog 57 #[.slice ao 0 c, .slice bo 0 d] w fun e w' => e = .returned (.int .i64 0) ∧ w' = w := by
  go_enter Tryd.func57, Tryd.ntmps57
  go_wp2
  refine wp_loop_rounds 1 ?_
  rw [rounds_succ]
  go_wp2
  go_ret
  exact ⟨rfl, rfl⟩

set_option maxHeartbeats 1000000 in
theorem l1Compare_at (b o c b' o' d n : Nat) (xs ys : List Int) (w : World) (hx : xs.length = n) (hy : ys.length = n) (hn : n ≤ 17592186044416) (dx : Digs xs) (dy : Digs ys)
    (hcx : ∀ j, j < n → w.cell? ⟨b, o + j, none⟩ = some (.int .i64 (xs.getD j 0))) (hcy : ∀ j, j < n → w.cell? ⟨b', o' + j, none⟩ = some (.int .i64 (ys.getD j 0))) :
    Calls Tryd.prog 57 #[.slice (some ⟨b, o, none⟩) n c, .slice (some ⟨b', o', none⟩) n d] w fun e w' => e = .returned (.int .i64 (cmpI (val xs) (val ys))) ∧ Below w.heap.size w w' := by
  have HX : Hid (xs.length = n) := hx
  have HY : Hid (ys.length = n) := hy
  have HD : Hid (Digs xs ∧ Digs ys) := ⟨dx, dy⟩
  have HC : Hid ((∀ j, j < n → w.cell? ⟨b, o + j, none⟩ = some (.int .i64 (xs.getD j 0))) ∧ (∀ j, j < n → w.cell? ⟨b', o' + j, none⟩ = some (.int .i64 (ys.getD j 0)))) := ⟨hcx, hcy⟩
  clear hx hy dx dy hcx hcy
  go_enter Tryd.func57, Tryd.ntmps57
  go_wp2
  go_loopw [5] (fun i wr => ∃ k : Nat, k ≤ n ∧ i = .int .i64 ((k : Int) - 1) ∧ Hid (∀ j, k ≤ j → xs.getD j 0 = ys.getD j 0) ∧ Hid (Below w.heap.size w wr)) (fun i _ => (intOf i + 1).toNat)
  case atStart => exact ⟨n, Nat.le_refl _, rfl, fun j hj => by simp [List.getD, List.getElem?_eq_none (show xs.length ≤ j by rw [HX.out]; omega), List.getElem?_eq_none (show ys.length ≤ j by rw [HY.out]; omega)], Below.refl _ _⟩
  case round =>
    obtain ⟨k, hk, rfl, hJ, hbel⟩ := hrel
    by_cases hz : k = 0
    · subst hz
      go_wp2
      go_ret
      refine ⟨ret_int ?_, hbel.out⟩
      have e : xs = ys := ext_getD (HX.out.trans HY.out.symm) fun j _ => hJ.out j (Nat.zero_le _)
      rw [e, cmpI_eq]
    · obtain ⟨q, rfl⟩ : ∃ q, k = q + 1 := ⟨k - 1, by omega⟩
      have e1 : ((q + 1 : Nat) : Int) - 1 = (q : Int) := by omega
      rw [e1]
      clear e1 hz
      have g1 : wr.cell? ⟨b, o + q, none⟩ = some (.int .i64 (xs.getD q 0)) := by have := HC.out.1 q (by omega); rw [hbel.out.cell (p := ⟨b, o + q, none⟩) (World.block_lt_of_cell? w _ this)]; exact this
      have g2 : wr.cell? ⟨b', o' + q, none⟩ = some (.int .i64 (ys.getD q 0)) := by have := HC.out.2 q (by omega); rw [hbel.out.cell (p := ⟨b', o' + q, none⟩) (World.block_lt_of_cell? w _ this)]; exact this
      have k0 : (0 : Int) ≤ (q : Int) := by omega
      have k6 : (q : Int) < (n : Int) := by omega
      generalize hx : xs.getD q 0 = x at g1
      generalize hy : ys.getD q 0 = y at g2
      have HX1 : Hid (xs.getD q 0 = x) := hx
      have HY1 : Hid (ys.getD q 0 = y) := hy
      clear hx hy
      by_cases hlt : x < y
      · go_wp2
        go_quiet (fail)
        go_wp2
        go_ret
        refine ⟨ret_int ?_, below_drewN hbel.out _⟩
        exact (cmpI_lt (val_lt_of q (HX.out.trans HY.out.symm) HD.out.1 HD.out.2 (by rw [HX.out]; omega) (fun j hj => hJ.out j (by omega)) (by rw [HX1.out, HY1.out]; exact hlt))).symm
      · by_cases hgt : y < x
        · go_wp2
          go_quiet (fail)
          go_wp2
          go_quiet (fail)
          go_wp2
          go_ret
          refine ⟨ret_int ?_, below_drewN (below_drewN hbel.out _) _⟩
          exact (cmpI_gt (val_lt_of q (HY.out.trans HX.out.symm) HD.out.2 HD.out.1 (by rw [HY.out]; omega) (fun j hj => (hJ.out j (by omega)).symm) (by rw [HX1.out, HY1.out]; exact hgt))).symm
        · have HE : Hid (x = y) := by show x = y; omega
          go_wp2
          go_quiet (fail)
          go_wp2
          go_quiet (fail)
          go_wp2
          go_roundw
          case rel => exact ⟨q, by omega, by go_num, fun j hj => by
            by_cases e : j = q
            · subst e; rw [HX1.out, HY1.out, HE.out]
            · exact hJ.out j (by omega), below_drewN hbel.out _⟩
          case measure => simp [intOf]

/-- Over canonical limbs the comparison is that of the numbers. -/
theorem l1Compare_c (ao bo : Option Addr) (n m c d : Nat) (xs ys : List Int) (w : World) (hx : xs.length = n) (hy : ys.length = m) (hn : n ≤ 17592186044416) (hm : m ≤ 17592186044416) (hr : Rd w ao xs) (hs : Rd w bo ys) (dx : Digs xs) (dy : Digs ys) (cx : trim xs = xs) (cy : trim ys = ys) :
    Calls Tryd.prog 57 #[.slice ao n c, .slice bo m d] w fun e w' => e = .returned (.int .i64 (cmpI (val xs) (val ys))) ∧ Below w.heap.size w w' := by
  by_cases h1 : n < m
  · refine (l1Compare_lt ao bo n m c d w h1 hn hm).mono ?_
    rintro e w' ⟨rfl, rfl⟩
    exact ⟨by rw [cmpI_lt (val_lt_len dx dy cy (by omega))], Below.refl _ _⟩
  · by_cases h2 : m < n
    · refine (l1Compare_gt ao bo n m c d w h2 hn hm).mono ?_
      rintro e w' ⟨rfl, rfl⟩
      exact ⟨by rw [cmpI_gt (val_lt_len dy dx cx (by omega))], Below.refl _ _⟩
    · obtain rfl : n = m := by omega
      by_cases h0 : n = 0
      · subst h0
        have e1 := List.length_eq_zero_iff.1 hx
        have e2 := List.length_eq_zero_iff.1 hy
        subst e1; subst e2
        refine (l1Compare_nil ao bo c d w).mono ?_
        rintro e w' ⟨rfl, rfl⟩
        exact ⟨by rw [cmpI_eq], Below.refl _ _⟩
      · rcases hr with rfl | ⟨b, o, rfl, hc⟩
        · simp at hx; omega
        · rcases hs with rfl | ⟨b', o', rfl, hc'⟩
          · simp at hy; omega
          · exact l1Compare_at b o c b' o' d n xs ys w hx hy hn dx dy (by rw [← hx]; exact hc) (by rw [← hy]; exact hc')

set_option maxHeartbeats 1000000 in
theorem l1Both_c (ao bo : Option Addr) (n m c d : Nat) (xs ys : List Int) (w : World) (hx : xs.length = n) (hy : ys.length = m) (hn : n ≤ 17592186044416) (hm : m ≤ 17592186044416) (hr : Rd w ao xs) (hs : Rd w bo ys) :
    Calls Tryd.prog 31 #[.agg #[.slice ao n c], .agg #[.slice bo m d]] w fun e w' => e = .returned (.bool (goodB xs && goodB ys)) ∧ Below w.heap.size w w' := by
  have HX : Hid (xs.length = n) := hx
  have HY : Hid (ys.length = m) := hy
  have HR : Hid (Rd w ao xs) := hr
  have HS : Hid (Rd w bo ys) := hs
  have HB0 : Hid (Below w.heap.size w ((w.alloc (Obj.cells #[Value.slice ao n c] 25)).alloc (Obj.cells #[Value.slice bo m d] 25))) := below_two w _ _
  clear hx hy hr hs
  cases hgx : goodB xs
  · go_enter Tryd.func31, Tryd.ntmps31
    go_wp2_with fail
    refine (specGood_c ao n c xs _ HX.out hn (HR.out.later HB0.out)).mono ?_
    rw [hgx]
    rintro e w1 ⟨rfl, hb⟩
    have HB1 : Hid (Below w.heap.size w w1) := HB0.out.trans (hb.mono (by simp; omega))
    clear hb hgx
    go_wp2
    go_ret
    exact ⟨rfl, HB1.out⟩
  · go_enter Tryd.func31, Tryd.ntmps31
    go_wp2_with fail
    refine (specGood_c ao n c xs _ HX.out hn (HR.out.later HB0.out)).mono ?_
    rw [hgx]
    rintro e w1 ⟨rfl, hb⟩
    have HB1 : Hid (Below w.heap.size w w1) := HB0.out.trans (hb.mono (by simp; omega))
    have y1 : w1.cell? ⟨w.heap.size + 1, 0, none⟩ = some (.slice bo m d) := cell_keep (S := 0) hb (by simp)
    clear hb hgx
    go_wp2_with fail
    refine (specGood_c bo m d ys _ HY.out hm (HS.out.later HB1.out)).mono ?_
    generalize hgy : goodB ys = gy
    have HG2 : Hid (goodB ys = gy) := hgy
    clear hgy
    rintro e w2 ⟨rfl, hb⟩
    have HB2 : Hid (Below w.heap.size w w2) := HB1.out.trans (hb.mono (HB1.out.size))
    clear hb
    go_wp2
    go_ret
    exact ⟨ret_bool (by simp [HG2.out]), HB2.out⟩

end Go.Proofs.YtaedplfihjfchaaDoor
