/- What chapter 6 draws: polls. -/
import Derived.Test.YtobomcmjilcnaaaDoorD6
namespace Go.Proofs.YtobomcmjilcnaaaDoor
set_option linter.unusedVariables false
set_option maxRecDepth 1000000
set_option linter.unusedSimpArgs false
open Go.RowKit

def DrawnPoll (w : World) (e : Ending) (w' : World) : Prop := ∃ a1 q1 c1 xs a2 q2 c2 ys a3 q3 c3 zs, e = .returned (.tuple #[.slice a1 q1 c1, .slice a2 q2 c2, .slice a3 q3 c3]) ∧ q1 ≤ 20 ∧ q2 ≤ 20 ∧ q3 ≤ 20 ∧ xs.length = q1 ∧ ys.length = q2 ∧ zs.length = q3 ∧ Rd w' a1 xs ∧ Rd w' a2 ys ∧ Rd w' a3 zs ∧ Below w.heap.size w w'

theorem own_lt {w : World} {base : Nat} {v : Value} {xs : List Int} (h : Own w base v xs) : ∀ k, v.ownBlock = some k → k < w.heap.size := fun k hk => (World.ownsRow.lt h k hk).2

set_option maxHeartbeats 8000000 in
set_option maxRecDepth 1000000 in
theorem drawCountPoll_c (ao : Option Addr) (n c : Nat) (w : World) (hn : n ≤ 9223372036854775807) (h : CodeOk w w.heap.size ao n) :
    Calls Tryd.prog 7 #[.slice ao n c] w (DrawnPoll w) := by
  obtain ⟨i0, hi, hz0, hz1, hz2⟩ := info_parts Tryd.infoInt
  have HC : Hid (Cur (w.alloc (.cells #[.slice ao n c, .int .i64 0, .int .u64 0] 50)) w.heap.size ao n c 0) := cur_new _ hn h
  have HOld : Hid (Old ao n w.heap.size) := h.old
  obtain ⟨g, hg⟩ : ∃ g, w.heap.size = g := ⟨_, rfl⟩
  have HB0 : Hid (GB g w (w.alloc (.cells #[.slice ao n c, .int .i64 0, .int .u64 0] 50))) := (GB.refl _ _).alloc _
  clear h
  go_enter Tryd.func7, Tryd.ntmps7
  rw [hg] at HC
  go_wp2_with fail
  refine (secrets_c g ao n c 0 _ (by omega) HC.out).mono ?_
  rintro e w1 ⟨a1, q1, c1, xs, rfl, hq1, hl1, ho1, hc1, hg1⟩
  have C1 : Hid (Cur w1 g ao n c 100) := hc1.mono (by omega)
  have G1 : Hid (GB g w w1) := HB0.out.trans hg1
  have X1 : Hid (Own w1 (g + 1) (.slice a1 q1 c1) xs) := ho1.mono (by simp; omega)
  have HXL : Hid (xs.length = q1) := hl1
  have hgl : g < w1.heap.size := hc1.lt
  clear hl1 ho1 hc1 hg1 HC HB0
  obtain ⟨B, hB⟩ : ∃ B, w1.heap.size = B := ⟨_, rfl⟩
  have hOB : Hid (Old ao n B) := old_mono HOld.out (by have := G1.out.size; omega)
  have hXB : Hid (∀ k, (Value.slice a1 q1 c1).ownBlock = some k → k < B) := fun k hk => by rw [← hB]; exact own_lt X1.out k hk
  have hgB : g < B := by omega
  go_wp2_with fail
  refine (pick_c g ao n c 100 8 _ (by omega) (by omega) C1.out).mono ?_
  rintro e w2 ⟨z, rfl, hz0', hz1', hc1, hg1⟩
  have C2 : Hid (Cur w2 g ao n c 102) := hc1.mono (by omega)
  have G2 : Hid (GB g w w2) := G1.out.trans hg1
  have X2 : Hid (Own w2 (g + 1) (.slice a1 q1 c1) xs) := X1.out.kept hg1 (sep_own X1.out (by omega))
  have hB2 : B ≤ w2.heap.size := by rw [← hB]; exact hg1.size
  clear hc1 hg1 C1 G1 X1 hgl hB
  go_wp2_with fail
  refine (one_c g ao n c 102 20 _ (by omega) (by omega) C2.out).mono ?_
  rintro e w3 ⟨bb, rfl, hc1, hg1⟩
  have C3 : Hid (Cur w3 g ao n c 104) := hc1.mono (by omega)
  have G3 : Hid (GB g w w3) := G2.out.trans hg1
  have X3 : Hid (Own w3 (g + 1) (.slice a1 q1 c1) xs) := X2.out.kept hg1 (sep_own X2.out (by omega))
  have hB3 : B ≤ w3.heap.size := Nat.le_trans hB2 hg1.size
  clear hc1 hg1 C2 G2 X2 hB2
  cases bb
  · have C4 : Hid (Cur w3 g ao n c 106) := C3.out.mono (by omega)
    obtain ⟨k0, hk0⟩ : ∃ k0 : Nat, z = (k0 : Int) := ⟨z.toNat, by omega⟩
    have hk13 : k0 ≤ 13 := by omega
    subst hk0
    have G4 := G3
    have X4 := X3
    have hB4 := hB3
    clear C3 G3 X3 hB3
    obtain ⟨w4, rfl⟩ : ∃ w4 : World, w4 = w3 := ⟨_, rfl⟩
    go_wp2
    go_loopw [7, 8, 9] (fun u v i wr => ∃ (k : Nat) (ys zs : List Int), i = .int .i64 k ∧ ys.length + k ≤ 13 ∧ zs.length + k ≤ 13 ∧ Hid (Own wr B u ys) ∧ Hid (Own wr B v zs) ∧ Hid (Sep u v) ∧ Hid (Own wr (g + 1) (.slice a1 q1 c1) xs) ∧ Hid (Cur wr g ao n c (106 + 4 * ys.length)) ∧ Hid (GB g w wr) ∧ B ≤ wr.heap.size) (fun _ _ i _ => (intOf i).toNat)
    case atStart => exact ⟨k0, [], [], by first | rfl | go_num, by simp; omega, by simp; omega, World.ownsRow_nil _ _ _ _, World.ownsRow_nil _ _ _ _, (fun k h1 h2 => by cases h1), X4, C4.out.mono (by first | omega | (simp; try omega)), G4, hB4⟩
    case round =>
      clear C4 G4 X4 hB4
      obtain ⟨k, ys, zs, rfl, hk1, hk2, hY, hZ, hS, hX, hC, hG, hBr⟩ := hrel
      by_cases hlt : 0 < k
      · have k1 : (0 : Int) < (k : Int) := by omega
        obtain ⟨p, hp⟩ : ∃ p, ys.length = p := ⟨_, rfl⟩
        obtain ⟨r, hrl⟩ : ∃ r, zs.length = r := ⟨_, rfl⟩
        have HP : Hid (ys.length = p) := hp
        have HR : Hid (zs.length = r) := hrl
        rw [hp] at hk1 hC
        rw [hrl] at hk2
        clear hp hrl
        go_wp2_with fail
        refine (pick_c g ao n c (106 + 4 * p) 200 _ (by omega) (by omega) hC.out).mono ?_
        rintro e wa ⟨x, rfl, hx0, hx1, hc1, hg1⟩
        have hCa : Hid (Cur wa g ao n c (106 + 4 * p + 2)) := hc1
        have hGa : Hid (GB g w wa) := hG.out.trans hg1
        have hYa : Hid (Own wa B u7 ys) := hY.out.kept hg1 (sep_own hY.out (by omega))
        have hZa : Hid (Own wa B u8 zs) := hZ.out.kept hg1 (sep_own hZ.out (by omega))
        have hXa : Hid (Own wa (g + 1) (.slice a1 q1 c1) xs) := hX.out.kept hg1 (sep_own hX.out (by omega))
        have hBa : B ≤ wa.heap.size := Nat.le_trans hBr hg1.size
        clear hc1 hg1 hC hG hY hZ hX hBr
        have hown : wa.ownsRow B 3 1 u7 p (cellsI ys) := by have h := hYa.out; unfold Own at h; rw [HP.out] at h; exact h
        have hob : ∀ k', u7.ownBlock = some k' → B ≤ k' := own_block_ge hYa.out
        have hone : ∀ u ∈ [Value.int .i64 (1 + x)], u.oneCell' = true := ints_oneCell _ [1 + x]
        clear hYa
        go_wp2_with (at_builtin; refine wpList_append_lies _ rfl _ _ 23 rfl B 3 i0 (.int .i64 0) 1 8 Tryd.underlying23 hi hz0 hz1 hz2 rfl (by decide) _ _ _ rfl (hown.alloc _) ⟨wa.heap.size, 0, none⟩ 1 1 [.int .i64 (1 + x)] rfl rfl (cell_new1 _ _ _) hone (by decide) (by unfold maxLen; omega) (by omega) (by simp; omega) (wa.heap.size + 1) (by simp) ?_; intro g7 c7 wb hown' hgrow hwhere hlt7; have hYb : Hid (Own wb B (.slice (some ⟨g7, 0, none⟩) (p + 1) c7) (ys ++ [1 + x])) := own_push (w := wa) (v := u7) (by simpa [HP.out] using hown'); have hZb : Hid (Own wb B u8 zs) := (hZa.out.later (balloc wa _)).kept hgrow hS.out.symm.or; have hXb : Hid (Own wb (g + 1) (.slice a1 q1 c1) xs) := (hXa.out.later (balloc wa _)).kept hgrow (Sep.or (fun k h1 h2 => by have e1 := hXB.out k h1; have e2 := hob k h2; omega)); have hSb : Hid (Sep u8 (.slice (some ⟨g7, 0, none⟩) (p + 1) c7)) := hS.out.symm.app hwhere (fun k hk => by have := own_lt hZa.out k hk; omega); have hCb : Hid (Cur wb g ao n c (106 + 4 * p + 2)) := (hCa.out.alloc _).grown hgrow hob hgB hOB.out; have hGb : Hid (GB g w wb) := (hGa.out.alloc _).grown hgrow (fun k hk => by have := hob k hk; omega); have hBb : B ≤ wb.heap.size := Nat.le_trans (Nat.le_trans hBa (by simp)) hgrow.size; clear hown' hgrow hwhere hlt7 hown hob hZa hXa hCa hGa hBa hS)
        refine (pick_c g ao n c (106 + 4 * p + 2) 4 _ (by omega) (by omega) hCb.out).mono ?_
        rintro e wc ⟨y, rfl, hy0, hy1, hc1, hg1⟩
        have hCc : Hid (Cur wc g ao n c (106 + 4 * p + 4)) := hc1.mono (by omega)
        have hGc : Hid (GB g w wc) := hGb.out.trans hg1
        have hYc : Hid (Own wc B (.slice (some ⟨g7, 0, none⟩) (p + 1) c7) (ys ++ [1 + x])) := hYb.out.kept hg1 (sep_own hYb.out (by omega))
        have hZc : Hid (Own wc B u8 zs) := hZb.out.kept hg1 (sep_own hZb.out (by omega))
        have hXc : Hid (Own wc (g + 1) (.slice a1 q1 c1) xs) := hXb.out.kept hg1 (sep_own hXb.out (by omega))
        have hBc : B ≤ wc.heap.size := Nat.le_trans hBb hg1.size
        clear hc1 hg1 hCb hGb hYb hZb hXb hBb
        have hown : wc.ownsRow B 3 1 u8 r (cellsI zs) := by have h := hZc.out; unfold Own at h; rw [HR.out] at h; exact h
        have hob : ∀ k', u8.ownBlock = some k' → B ≤ k' := own_block_ge hZc.out
        have hone2 : ∀ u ∈ [Value.int .i64 y], u.oneCell' = true := ints_oneCell _ [y]
        clear hZc
        go_wp2_with (at_builtin; refine wpList_append_lies _ rfl _ _ 23 rfl B 3 i0 (.int .i64 0) 1 8 Tryd.underlying23 hi hz0 hz1 hz2 rfl (by decide) _ _ _ rfl (hown.alloc _) ⟨wc.heap.size, 0, none⟩ 1 1 [.int .i64 y] rfl rfl (cell_new1 _ _ _) hone2 (by decide) (by unfold maxLen; omega) (by omega) (by simp; omega) (wc.heap.size + 1) (by simp) ?_; intro g8 c8 wd hown' hgrow hwhere hlt8; have hZd : Hid (Own wd B (.slice (some ⟨g8, 0, none⟩) (r + 1) c8) (zs ++ [y])) := own_push (w := wc) (v := u8) (by simpa [HR.out] using hown'); have hYd : Hid (Own wd B (.slice (some ⟨g7, 0, none⟩) (p + 1) c7) (ys ++ [1 + x])) := (hYc.out.later (balloc wc _)).kept hgrow hSb.out.symm.or; have hXd : Hid (Own wd (g + 1) (.slice a1 q1 c1) xs) := (hXc.out.later (balloc wc _)).kept hgrow (Sep.or (fun k h1 h2 => by have e1 := hXB.out k h1; have e2 := hob k h2; omega)); have hSd : Hid (Sep (.slice (some ⟨g7, 0, none⟩) (p + 1) c7) (.slice (some ⟨g8, 0, none⟩) (r + 1) c8)) := hSb.out.symm.app hwhere (fun k hk => by have := own_lt hYc.out k hk; omega); have hCd : Hid (Cur wd g ao n c (106 + 4 * p + 4)) := (hCc.out.alloc _).grown hgrow hob hgB hOB.out; have hGd : Hid (GB g w wd) := (hGc.out.alloc _).grown hgrow (fun k hk => by have := hob k hk; omega); have hBd : B ≤ wd.heap.size := Nat.le_trans (Nat.le_trans hBc (by simp)) hgrow.size; clear hown' hgrow hwhere hlt8 hown hob hYc hXc hCc hGc hBc hSb)
        go_roundw
        case rel => exact ⟨k - 1, ys ++ [1 + x], zs ++ [y], by go_num, by rw [List.length_append, HP.out]; simp; omega, by rw [List.length_append, HR.out]; simp; omega, hYd, hZd, hSd, hXd, hCd.out.mono (by rw [List.length_append, HP.out]; simp; omega), hGd, hBd⟩
        case measure => simp [intOf]; omega
      · have k1 : (k : Int) ≤ 0 := by omega
        obtain ⟨a2, c2, hv⟩ := hY.out.shape
        obtain ⟨p, hp⟩ : ∃ p, ys.length = p := ⟨_, rfl⟩
        rw [hp] at hv
        subst hv
        obtain ⟨a3, c3, hv⟩ := hZ.out.shape
        obtain ⟨r, hrl⟩ : ∃ r, zs.length = r := ⟨_, rfl⟩
        rw [hrl] at hv
        subst hv
        have HP : Hid (ys.length = p) := hp
        have HR : Hid (zs.length = r) := hrl
        have hp13 : p ≤ 13 := by omega
        have hr13 : r ≤ 13 := by omega
        have HC0 : Hid (Cur wr g ao n c 200) := hC.out.mono (by omega)
        clear hp hrl hk1 hk2 hC
        by_cases hq0 : r = 0
        · have hq1 : ¬ (0 : Int) < (r : Int) := by omega
          clear hq0
          go_wp2
          refine bodyPost_ret (v := .tuple #[.slice a1 q1 c1, .slice a2 p c2, .slice a3 r c3]) (by simp [results, Tryd.results7, go_sem]; try rfl) rfl ?_
          exact ⟨a1, q1, c1, xs, a2, p, c2, ys, a3, r, c3, zs, rfl, by omega, by omega, by omega, HXL.out, HP.out, HR.out, hX.out.rd'.2, hY.out.rd'.2, hZ.out.rd'.2, hG.out.below (Nat.le_refl _) (by omega)⟩
        · have hq1 : (0 : Int) < (r : Int) := by omega
          obtain ⟨gg, hgg, hgb⟩ := own_some hZ.out (by omega)
          subst hgg
          clear hq0
          go_wp2_with fail
          refine (one_c g ao n c 200 20 _ (by omega) (by omega) HC0.out).mono ?_
          rintro e we ⟨b2, rfl, hc1, hg1⟩
          have G3 : Hid (GB g w we) := hG.out.trans hg1
          have Y3 : Hid (Own we B (.slice a2 p c2) ys) := hY.out.kept hg1 (sep_own hY.out (by omega))
          have Z3 : Hid (Own we B (.slice (some ⟨gg, 0, none⟩) r c3) zs) := hZ.out.kept hg1 (sep_own hZ.out (by omega))
          have X3 : Hid (Own we (g + 1) (.slice a1 q1 c1) xs) := hX.out.kept hg1 (sep_own hX.out (by omega))
          clear hc1 hg1 HC0 hG hY hZ hX
          cases b2
          · go_wp2
            refine bodyPost_ret (v := .tuple #[.slice a1 q1 c1, .slice a2 p c2, .slice (some ⟨gg, 0, none⟩) r c3]) (by simp [results, Tryd.results7, go_sem]; try rfl) rfl ?_
            exact ⟨a1, q1, c1, xs, a2, p, c2, ys, _, r, c3, zs, rfl, by omega, by omega, by omega, HXL.out, HP.out, HR.out, X3.out.rd'.2, Y3.out.rd'.2, Z3.out.rd'.2, G3.out.below (Nat.le_refl _) (by omega)⟩
          · have gc : we.cell? ⟨gg, 0, none⟩ = some (.int .i64 (zs.getD 0 0)) := by
              have h := Z3.out
              rw [← HR.out] at h
              exact h.cell 0 (by rw [HR.out]; omega)
            have gf : we.frozen? ⟨gg, 0, none⟩ = false := by
              have h := Z3.out
              rw [← HR.out] at h
              exact h.free 0
            have Z5 : Hid (Own (we.setCell ⟨gg, 0, none⟩ (.int .i64 4)) B (.slice (some ⟨gg, 0, none⟩) r c3) (zs.set 0 4)) := own_set Z3.out 0 4
            have hgr : we.grownBy (we.setCell ⟨gg, 0, none⟩ (.int .i64 4)) (some gg) := (GB.refl gg we).setCell _ _
            have Y5 : Hid (Own (we.setCell ⟨gg, 0, none⟩ (.int .i64 4)) B (.slice a2 p c2) ys) := Y3.out.kept hgr hS.out.or
            have X5 : Hid (Own (we.setCell ⟨gg, 0, none⟩ (.int .i64 4)) (g + 1) (.slice a1 q1 c1) xs) := X3.out.kept hgr (Sep.or (v := .slice (some ⟨gg, 0, none⟩) r c3) (fun k h1 h2 => by have e1 := hXB.out k h1; have e2 : gg = k := Option.some.inj h2; omega))
            have G5 : Hid (GB g w (we.setCell ⟨gg, 0, none⟩ (.int .i64 4))) := G3.out.grown hgr (fun k hk => by simp at hk; omega)
            clear hgr G3 Y3 Z3 X3
            generalize zs.getD 0 0 = y0 at gc
            go_wp2
            refine bodyPost_ret (v := .tuple #[.slice a1 q1 c1, .slice a2 p c2, .slice (some ⟨gg, 0, none⟩) r c3]) (by simp [results, Tryd.results7, go_sem]; try rfl) rfl ?_
            exact ⟨a1, q1, c1, xs, a2, p, c2, ys, _, r, c3, zs.set 0 4, rfl, by omega, by omega, by omega, HXL.out, HP.out, by rw [List.length_set]; exact HR.out, X5.out.rd'.2, Y5.out.rd'.2, Z5.out.rd'.2, G5.out.below (Nat.le_refl _) (by omega)⟩
  · go_wp2_with fail
    refine (pick_c g ao n c 104 2 _ (by omega) (by omega) C3.out).mono ?_
    rintro e w4 ⟨z4, rfl, hz40, hz41, hc1, hg1⟩
    have C4 : Hid (Cur w4 g ao n c 106) := hc1.mono (by omega)
    have G4 : Hid (GB g w w4) := G3.out.trans hg1
    have X4 : Hid (Own w4 (g + 1) (.slice a1 q1 c1) xs) := X3.out.kept hg1 (sep_own X3.out (by omega))
    have hB4 : B ≤ w4.heap.size := Nat.le_trans hB3 hg1.size
    clear hc1 hg1 C3 G3 X3 hB3
    obtain ⟨k0, hk0⟩ : ∃ k0 : Nat, 12 + z4 = (k0 : Int) := ⟨(12 + z4).toNat, by omega⟩
    have hk13 : k0 ≤ 13 := by omega
    go_wp2
    go_loopw [7, 8, 9] (fun u v i wr => ∃ (k : Nat) (ys zs : List Int), i = .int .i64 k ∧ ys.length + k ≤ 13 ∧ zs.length + k ≤ 13 ∧ Hid (Own wr B u ys) ∧ Hid (Own wr B v zs) ∧ Hid (Sep u v) ∧ Hid (Own wr (g + 1) (.slice a1 q1 c1) xs) ∧ Hid (Cur wr g ao n c (106 + 4 * ys.length)) ∧ Hid (GB g w wr) ∧ B ≤ wr.heap.size) (fun _ _ i _ => (intOf i).toNat)
    case atStart => exact ⟨k0, [], [], by first | rfl | go_num, by simp; omega, by simp; omega, World.ownsRow_nil _ _ _ _, World.ownsRow_nil _ _ _ _, (fun k h1 h2 => by cases h1), X4, C4.out.mono (by first | omega | (simp; try omega)), G4, hB4⟩
    case round =>
      clear C4 G4 X4 hB4
      obtain ⟨k, ys, zs, rfl, hk1, hk2, hY, hZ, hS, hX, hC, hG, hBr⟩ := hrel
      by_cases hlt : 0 < k
      · have k1 : (0 : Int) < (k : Int) := by omega
        obtain ⟨p, hp⟩ : ∃ p, ys.length = p := ⟨_, rfl⟩
        obtain ⟨r, hrl⟩ : ∃ r, zs.length = r := ⟨_, rfl⟩
        have HP : Hid (ys.length = p) := hp
        have HR : Hid (zs.length = r) := hrl
        rw [hp] at hk1 hC
        rw [hrl] at hk2
        clear hp hrl
        go_wp2_with fail
        refine (pick_c g ao n c (106 + 4 * p) 200 _ (by omega) (by omega) hC.out).mono ?_
        rintro e wa ⟨x, rfl, hx0, hx1, hc1, hg1⟩
        have hCa : Hid (Cur wa g ao n c (106 + 4 * p + 2)) := hc1
        have hGa : Hid (GB g w wa) := hG.out.trans hg1
        have hYa : Hid (Own wa B u7 ys) := hY.out.kept hg1 (sep_own hY.out (by omega))
        have hZa : Hid (Own wa B u8 zs) := hZ.out.kept hg1 (sep_own hZ.out (by omega))
        have hXa : Hid (Own wa (g + 1) (.slice a1 q1 c1) xs) := hX.out.kept hg1 (sep_own hX.out (by omega))
        have hBa : B ≤ wa.heap.size := Nat.le_trans hBr hg1.size
        clear hc1 hg1 hC hG hY hZ hX hBr
        have hown : wa.ownsRow B 3 1 u7 p (cellsI ys) := by have h := hYa.out; unfold Own at h; rw [HP.out] at h; exact h
        have hob : ∀ k', u7.ownBlock = some k' → B ≤ k' := own_block_ge hYa.out
        have hone : ∀ u ∈ [Value.int .i64 (1 + x)], u.oneCell' = true := ints_oneCell _ [1 + x]
        clear hYa
        go_wp2_with (at_builtin; refine wpList_append_lies _ rfl _ _ 23 rfl B 3 i0 (.int .i64 0) 1 8 Tryd.underlying23 hi hz0 hz1 hz2 rfl (by decide) _ _ _ rfl (hown.alloc _) ⟨wa.heap.size, 0, none⟩ 1 1 [.int .i64 (1 + x)] rfl rfl (cell_new1 _ _ _) hone (by decide) (by unfold maxLen; omega) (by omega) (by simp; omega) (wa.heap.size + 1) (by simp) ?_; intro g7 c7 wb hown' hgrow hwhere hlt7; have hYb : Hid (Own wb B (.slice (some ⟨g7, 0, none⟩) (p + 1) c7) (ys ++ [1 + x])) := own_push (w := wa) (v := u7) (by simpa [HP.out] using hown'); have hZb : Hid (Own wb B u8 zs) := (hZa.out.later (balloc wa _)).kept hgrow hS.out.symm.or; have hXb : Hid (Own wb (g + 1) (.slice a1 q1 c1) xs) := (hXa.out.later (balloc wa _)).kept hgrow (Sep.or (fun k h1 h2 => by have e1 := hXB.out k h1; have e2 := hob k h2; omega)); have hSb : Hid (Sep u8 (.slice (some ⟨g7, 0, none⟩) (p + 1) c7)) := hS.out.symm.app hwhere (fun k hk => by have := own_lt hZa.out k hk; omega); have hCb : Hid (Cur wb g ao n c (106 + 4 * p + 2)) := (hCa.out.alloc _).grown hgrow hob hgB hOB.out; have hGb : Hid (GB g w wb) := (hGa.out.alloc _).grown hgrow (fun k hk => by have := hob k hk; omega); have hBb : B ≤ wb.heap.size := Nat.le_trans (Nat.le_trans hBa (by simp)) hgrow.size; clear hown' hgrow hwhere hlt7 hown hob hZa hXa hCa hGa hBa hS)
        refine (pick_c g ao n c (106 + 4 * p + 2) 4 _ (by omega) (by omega) hCb.out).mono ?_
        rintro e wc ⟨y, rfl, hy0, hy1, hc1, hg1⟩
        have hCc : Hid (Cur wc g ao n c (106 + 4 * p + 4)) := hc1.mono (by omega)
        have hGc : Hid (GB g w wc) := hGb.out.trans hg1
        have hYc : Hid (Own wc B (.slice (some ⟨g7, 0, none⟩) (p + 1) c7) (ys ++ [1 + x])) := hYb.out.kept hg1 (sep_own hYb.out (by omega))
        have hZc : Hid (Own wc B u8 zs) := hZb.out.kept hg1 (sep_own hZb.out (by omega))
        have hXc : Hid (Own wc (g + 1) (.slice a1 q1 c1) xs) := hXb.out.kept hg1 (sep_own hXb.out (by omega))
        have hBc : B ≤ wc.heap.size := Nat.le_trans hBb hg1.size
        clear hc1 hg1 hCb hGb hYb hZb hXb hBb
        have hown : wc.ownsRow B 3 1 u8 r (cellsI zs) := by have h := hZc.out; unfold Own at h; rw [HR.out] at h; exact h
        have hob : ∀ k', u8.ownBlock = some k' → B ≤ k' := own_block_ge hZc.out
        have hone2 : ∀ u ∈ [Value.int .i64 y], u.oneCell' = true := ints_oneCell _ [y]
        clear hZc
        go_wp2_with (at_builtin; refine wpList_append_lies _ rfl _ _ 23 rfl B 3 i0 (.int .i64 0) 1 8 Tryd.underlying23 hi hz0 hz1 hz2 rfl (by decide) _ _ _ rfl (hown.alloc _) ⟨wc.heap.size, 0, none⟩ 1 1 [.int .i64 y] rfl rfl (cell_new1 _ _ _) hone2 (by decide) (by unfold maxLen; omega) (by omega) (by simp; omega) (wc.heap.size + 1) (by simp) ?_; intro g8 c8 wd hown' hgrow hwhere hlt8; have hZd : Hid (Own wd B (.slice (some ⟨g8, 0, none⟩) (r + 1) c8) (zs ++ [y])) := own_push (w := wc) (v := u8) (by simpa [HR.out] using hown'); have hYd : Hid (Own wd B (.slice (some ⟨g7, 0, none⟩) (p + 1) c7) (ys ++ [1 + x])) := (hYc.out.later (balloc wc _)).kept hgrow hSb.out.symm.or; have hXd : Hid (Own wd (g + 1) (.slice a1 q1 c1) xs) := (hXc.out.later (balloc wc _)).kept hgrow (Sep.or (fun k h1 h2 => by have e1 := hXB.out k h1; have e2 := hob k h2; omega)); have hSd : Hid (Sep (.slice (some ⟨g7, 0, none⟩) (p + 1) c7) (.slice (some ⟨g8, 0, none⟩) (r + 1) c8)) := hSb.out.symm.app hwhere (fun k hk => by have := own_lt hYc.out k hk; omega); have hCd : Hid (Cur wd g ao n c (106 + 4 * p + 4)) := (hCc.out.alloc _).grown hgrow hob hgB hOB.out; have hGd : Hid (GB g w wd) := (hGc.out.alloc _).grown hgrow (fun k hk => by have := hob k hk; omega); have hBd : B ≤ wd.heap.size := Nat.le_trans (Nat.le_trans hBc (by simp)) hgrow.size; clear hown' hgrow hwhere hlt8 hown hob hYc hXc hCc hGc hBc hSb)
        go_roundw
        case rel => exact ⟨k - 1, ys ++ [1 + x], zs ++ [y], by go_num, by rw [List.length_append, HP.out]; simp; omega, by rw [List.length_append, HR.out]; simp; omega, hYd, hZd, hSd, hXd, hCd.out.mono (by rw [List.length_append, HP.out]; simp; omega), hGd, hBd⟩
        case measure => simp [intOf]; omega
      · have k1 : (k : Int) ≤ 0 := by omega
        obtain ⟨a2, c2, hv⟩ := hY.out.shape
        obtain ⟨p, hp⟩ : ∃ p, ys.length = p := ⟨_, rfl⟩
        rw [hp] at hv
        subst hv
        obtain ⟨a3, c3, hv⟩ := hZ.out.shape
        obtain ⟨r, hrl⟩ : ∃ r, zs.length = r := ⟨_, rfl⟩
        rw [hrl] at hv
        subst hv
        have HP : Hid (ys.length = p) := hp
        have HR : Hid (zs.length = r) := hrl
        have hp13 : p ≤ 13 := by omega
        have hr13 : r ≤ 13 := by omega
        have HC0 : Hid (Cur wr g ao n c 200) := hC.out.mono (by omega)
        clear hp hrl hk1 hk2 hC
        by_cases hq0 : r = 0
        · have hq1 : ¬ (0 : Int) < (r : Int) := by omega
          clear hq0
          go_wp2
          refine bodyPost_ret (v := .tuple #[.slice a1 q1 c1, .slice a2 p c2, .slice a3 r c3]) (by simp [results, Tryd.results7, go_sem]; try rfl) rfl ?_
          exact ⟨a1, q1, c1, xs, a2, p, c2, ys, a3, r, c3, zs, rfl, by omega, by omega, by omega, HXL.out, HP.out, HR.out, hX.out.rd'.2, hY.out.rd'.2, hZ.out.rd'.2, hG.out.below (Nat.le_refl _) (by omega)⟩
        · have hq1 : (0 : Int) < (r : Int) := by omega
          obtain ⟨gg, hgg, hgb⟩ := own_some hZ.out (by omega)
          subst hgg
          clear hq0
          go_wp2_with fail
          refine (one_c g ao n c 200 20 _ (by omega) (by omega) HC0.out).mono ?_
          rintro e we ⟨b2, rfl, hc1, hg1⟩
          have G3 : Hid (GB g w we) := hG.out.trans hg1
          have Y3 : Hid (Own we B (.slice a2 p c2) ys) := hY.out.kept hg1 (sep_own hY.out (by omega))
          have Z3 : Hid (Own we B (.slice (some ⟨gg, 0, none⟩) r c3) zs) := hZ.out.kept hg1 (sep_own hZ.out (by omega))
          have X3 : Hid (Own we (g + 1) (.slice a1 q1 c1) xs) := hX.out.kept hg1 (sep_own hX.out (by omega))
          clear hc1 hg1 HC0 hG hY hZ hX
          cases b2
          · go_wp2
            refine bodyPost_ret (v := .tuple #[.slice a1 q1 c1, .slice a2 p c2, .slice (some ⟨gg, 0, none⟩) r c3]) (by simp [results, Tryd.results7, go_sem]; try rfl) rfl ?_
            exact ⟨a1, q1, c1, xs, a2, p, c2, ys, _, r, c3, zs, rfl, by omega, by omega, by omega, HXL.out, HP.out, HR.out, X3.out.rd'.2, Y3.out.rd'.2, Z3.out.rd'.2, G3.out.below (Nat.le_refl _) (by omega)⟩
          · have gc : we.cell? ⟨gg, 0, none⟩ = some (.int .i64 (zs.getD 0 0)) := by
              have h := Z3.out
              rw [← HR.out] at h
              exact h.cell 0 (by rw [HR.out]; omega)
            have gf : we.frozen? ⟨gg, 0, none⟩ = false := by
              have h := Z3.out
              rw [← HR.out] at h
              exact h.free 0
            have Z5 : Hid (Own (we.setCell ⟨gg, 0, none⟩ (.int .i64 4)) B (.slice (some ⟨gg, 0, none⟩) r c3) (zs.set 0 4)) := own_set Z3.out 0 4
            have hgr : we.grownBy (we.setCell ⟨gg, 0, none⟩ (.int .i64 4)) (some gg) := (GB.refl gg we).setCell _ _
            have Y5 : Hid (Own (we.setCell ⟨gg, 0, none⟩ (.int .i64 4)) B (.slice a2 p c2) ys) := Y3.out.kept hgr hS.out.or
            have X5 : Hid (Own (we.setCell ⟨gg, 0, none⟩ (.int .i64 4)) (g + 1) (.slice a1 q1 c1) xs) := X3.out.kept hgr (Sep.or (v := .slice (some ⟨gg, 0, none⟩) r c3) (fun k h1 h2 => by have e1 := hXB.out k h1; have e2 : gg = k := Option.some.inj h2; omega))
            have G5 : Hid (GB g w (we.setCell ⟨gg, 0, none⟩ (.int .i64 4))) := G3.out.grown hgr (fun k hk => by simp at hk; omega)
            clear hgr G3 Y3 Z3 X3
            generalize zs.getD 0 0 = y0 at gc
            go_wp2
            refine bodyPost_ret (v := .tuple #[.slice a1 q1 c1, .slice a2 p c2, .slice (some ⟨gg, 0, none⟩) r c3]) (by simp [results, Tryd.results7, go_sem]; try rfl) rfl ?_
            exact ⟨a1, q1, c1, xs, a2, p, c2, ys, _, r, c3, zs.set 0 4, rfl, by omega, by omega, by omega, HXL.out, HP.out, by rw [List.length_set]; exact HR.out, X5.out.rd'.2, Y5.out.rd'.2, Z5.out.rd'.2, G5.out.below (Nat.le_refl _) (by omega)⟩
end Go.Proofs.YtobomcmjilcnaaaDoor
