/- What chapter 7 draws: keys and hops, a row each. -/
import Derived.Test.YtnfoflijapbkdaaD7
import Derived.Deep.AppendLies
namespace Go.Proofs.Ytnfoflijapbkdaa
set_option linter.unusedVariables false
set_option maxRecDepth 1000000
set_option linter.unusedSimpArgs false
open Go.RowKit

/-- Two rows share no block. -/
def Sep (u v : Value) : Prop := ∀ k, u.ownBlock = some k → v.ownBlock = some k → False
theorem Sep.or {u v : Value} (h : Sep u v) : u.ownBlock = none ∨ u.ownBlock ≠ v.ownBlock := by
  rcases hb : u.ownBlock with _ | b
  · exact Or.inl rfl
  · exact Or.inr (fun e => h b hb e.symm)
theorem Sep.symm {u v : Value} (h : Sep u v) : Sep v u := fun k h1 h2 => h k h2 h1
theorem Sep.app {u v : Value} {g H n c : Nat} (h : Sep u v) (hw : v.ownBlock = some g ∨ g = H) (hu : ∀ k, u.ownBlock = some k → k < H) : Sep u (.slice (some ⟨g, 0, none⟩) n c) := fun k h1 h2 => by
  have e : g = k := Option.some.inj h2
  rcases hw with hw | hw
  · exact h k h1 (by rw [hw, e])
  · have := hu k h1; omega
theorem own_lt {w : World} {base : Nat} {v : Value} {xs : List Int} (h : Own w base v xs) : ∀ k, v.ownBlock = some k → k < w.heap.size := fun k hk => (World.ownsRow.lt h k hk).2

def Route (g : Nat) (ao : Option Addr) (n c : Nat) (M : Int) (w : World) (e : Ending) (w' : World) : Prop :=
  ∃ a1 q1 c1 ks a2 q2 c2 hs, e = .returned (.tuple #[.slice a1 q1 c1, .slice a2 q2 c2]) ∧ 1 ≤ q1 ∧ q1 ≤ 5 ∧ 1 ≤ q2 ∧ q2 ≤ 5 ∧ ks.length = q1 ∧ hs.length = q2 ∧ Own w' w.heap.size (.slice a1 q1 c1) ks ∧ Own w' w.heap.size (.slice a2 q2 c2) hs ∧ Sep (.slice a1 q1 c1) (.slice a2 q2 c2) ∧ Cur w' g ao n c (M + 100) ∧ GB g w w'

set_option maxHeartbeats 8000000 in
set_option maxRecDepth 1000000 in
theorem route_c (g : Nat) (ao : Option Addr) (n c : Nat) (M : Int) (w : World) (hM : M ≤ 1000) (h0M : 0 ≤ M) (h : Cur w g ao n c M) :
    Calls Try.prog 43 #[.pointer (some ⟨g, 0, none⟩)] w (Route g ao n c M w) := by
  obtain ⟨i0, hi, hz0, hz1, hz2⟩ := info_parts Try.infoInt
  have HC : Hid (Cur w g ao n c M) := h
  obtain ⟨B, hB⟩ : ∃ B, w.heap.size = B := ⟨_, rfl⟩
  have hOB : Hid (Old ao n B) := by rw [← hB]; exact h.code.old
  have hgB : g < B := by rw [← hB]; exact h.lt
  have HEQ : Hid (w.heap.size = B) := hB
  clear h hB
  go_enter Try.func43, Try.ntmps43
  go_wp2_with fail
  refine (pick_c g ao n c M 4 _ (by omega) (by omega) HC.out).mono ?_
  rintro e w1 ⟨z, rfl, hz0', hz1', hc1, hg1⟩
  obtain ⟨n0, hn0⟩ : ∃ n0 : Nat, 1 + z = (n0 : Int) := ⟨(1 + z).toNat, by omega⟩
  have hn1 : 1 ≤ n0 := by omega
  have hn4 : n0 ≤ 4 := by omega
  have C1 : Hid (Cur w1 g ao n c (M + 2)) := hc1
  have G1 : Hid (GB g w w1) := hg1
  have hB1 : B ≤ w1.heap.size := by rw [← HEQ.out]; exact hg1.size
  clear hc1 hg1 HC
  go_wp2
  go_loopw [4, 5, 6] (fun u v i wr => ∃ (k p : Nat) (ks hs : List Int), i = .int .i64 k ∧ p + k = n0 ∧ Hid (ks.length = p) ∧ Hid (hs.length = p) ∧ Hid (Own wr B u ks) ∧ Hid (Own wr B v hs) ∧ Hid (Sep u v) ∧ Hid (Cur wr g ao n c (M + 2 + 12 * p)) ∧ Hid (GB g w wr) ∧ B ≤ wr.heap.size) (fun _ _ i _ => (intOf i).toNat)
  case atStart => exact ⟨n0, 0, [], [], by first | rfl | go_num, by omega, rfl, rfl, World.ownsRow_nil _ _ _ _, World.ownsRow_nil _ _ _ _, (fun k h1 h2 => by cases h1), C1.out.mono (by omega), G1, hB1⟩
  case round =>
    clear C1 G1 hB1 hn0 hz0' hz1'
    obtain ⟨k, p, ks, hs, rfl, hkp, HP, HR, hY, hZ, hS, hC, hG, hBr⟩ := hrel
    have hp4 : p ≤ 4 := by omega
    by_cases hlt : 0 < k
    · have k1 : (0 : Int) < (k : Int) := by omega
      have kk : (k : Int) ≤ 4 := by omega
      have HKP : Hid (p + k = n0 ∧ 0 < k) := ⟨hkp, hlt⟩
      clear hkp
      go_wp2_with fail
      refine (key_c g ao n c (M + 2 + 12 * p) _ (by omega) hC.out).mono ?_
      rintro e wa ⟨x, rfl, hc1, hg1⟩
      have hCa : Hid (Cur wa g ao n c (M + 2 + 12 * p + 10)) := hc1
      have hGa : Hid (GB g w wa) := hG.out.trans hg1
      have hYa : Hid (Own wa B u4 ks) := hY.out.kept hg1 (sep_own hY.out (by omega))
      have hZa : Hid (Own wa B u5 hs) := hZ.out.kept hg1 (sep_own hZ.out (by omega))
      have hBa : B ≤ wa.heap.size := Nat.le_trans hBr hg1.size
      clear hc1 hg1 hC hG hY hZ hBr
      have hown : wa.ownsRow B 3 1 u4 p (cellsI ks) := by have h := hYa.out; unfold Own at h; rw [HP.out] at h; exact h
      have hob : ∀ k', u4.ownBlock = some k' → B ≤ k' := own_block_ge hYa.out
      have hone : ∀ u ∈ [Value.int .i64 x], u.oneCell' = true := ints_oneCell _ [x]
      clear hYa
      go_wp2_with (at_builtin; refine wpList_append_lies _ rfl _ _ 23 rfl B 3 i0 (.int .i64 0) 1 8 Try.underlying23 hi hz0 hz1 hz2 rfl (by decide) _ _ _ rfl (hown.alloc _) ⟨wa.heap.size, 0, none⟩ 1 1 [.int .i64 x] rfl rfl (cell_new1 _ _ _) hone (by decide) (by unfold maxLen; omega) (by omega) (by simp; omega) (wa.heap.size + 1) (by simp) ?_; intro g7 c7 wb hown' hgrow hwhere hlt7; have hYb : Hid (Own wb B (.slice (some ⟨g7, 0, none⟩) (p + 1) c7) (ks ++ [x])) := own_push (w := wa) (v := u4) (by simpa [HP.out] using hown'); have hZb : Hid (Own wb B u5 hs) := (hZa.out.later (balloc wa _)).kept hgrow hS.out.symm.or; have hSb : Hid (Sep u5 (.slice (some ⟨g7, 0, none⟩) (p + 1) c7)) := hS.out.symm.app hwhere (fun k hk => by have := own_lt hZa.out k hk; omega); have hCb : Hid (Cur wb g ao n c (M + 2 + 12 * p + 10)) := (hCa.out.alloc _).grown hgrow hob hgB hOB.out; have hGb : Hid (GB g w wb) := (hGa.out.alloc _).grown hgrow (fun k hk => by have := hob k hk; have := HEQ.out; omega); have hBb : B ≤ wb.heap.size := Nat.le_trans (Nat.le_trans hBa (by simp)) hgrow.size; clear hown' hgrow hwhere hlt7 hown hob hZa hCa hGa hBa hS)
      refine (pick_c g ao n c (M + 2 + 12 * p + 10) 20 _ (by omega) (by omega) hCb.out).mono ?_
      rintro e wc ⟨y, rfl, hy0, hy1, hc1, hg1⟩
      have hCc : Hid (Cur wc g ao n c (M + 2 + 12 * p + 12)) := hc1.mono (by omega)
      have hGc : Hid (GB g w wc) := hGb.out.trans hg1
      have hYc : Hid (Own wc B (.slice (some ⟨g7, 0, none⟩) (p + 1) c7) (ks ++ [x])) := hYb.out.kept hg1 (sep_own hYb.out (by omega))
      have hZc : Hid (Own wc B u5 hs) := hZb.out.kept hg1 (sep_own hZb.out (by omega))
      have hBc : B ≤ wc.heap.size := Nat.le_trans hBb hg1.size
      clear hc1 hg1 hCb hGb hYb hZb hBb
      have hown : wc.ownsRow B 3 1 u5 p (cellsI hs) := by have h := hZc.out; unfold Own at h; rw [HR.out] at h; exact h
      have hob : ∀ k', u5.ownBlock = some k' → B ≤ k' := own_block_ge hZc.out
      have hone2 : ∀ u ∈ [Value.int .i64 (1 + y)], u.oneCell' = true := ints_oneCell _ [1 + y]
      clear hZc
      go_wp2_with (at_builtin; refine wpList_append_lies _ rfl _ _ 23 rfl B 3 i0 (.int .i64 0) 1 8 Try.underlying23 hi hz0 hz1 hz2 rfl (by decide) _ _ _ rfl (hown.alloc _) ⟨wc.heap.size, 0, none⟩ 1 1 [.int .i64 (1 + y)] rfl rfl (cell_new1 _ _ _) hone2 (by decide) (by unfold maxLen; omega) (by omega) (by simp; omega) (wc.heap.size + 1) (by simp) ?_; intro g8 c8 wd hown' hgrow hwhere hlt8; have hZd : Hid (Own wd B (.slice (some ⟨g8, 0, none⟩) (p + 1) c8) (hs ++ [1 + y])) := own_push (w := wc) (v := u5) (by simpa [HR.out] using hown'); have hYd : Hid (Own wd B (.slice (some ⟨g7, 0, none⟩) (p + 1) c7) (ks ++ [x])) := (hYc.out.later (balloc wc _)).kept hgrow hSb.out.symm.or; have hSd : Hid (Sep (.slice (some ⟨g7, 0, none⟩) (p + 1) c7) (.slice (some ⟨g8, 0, none⟩) (p + 1) c8)) := hSb.out.symm.app hwhere (fun k hk => by have := own_lt hYc.out k hk; omega); have hCd : Hid (Cur wd g ao n c (M + 2 + 12 * p + 12)) := (hCc.out.alloc _).grown hgrow hob hgB hOB.out; have hGd : Hid (GB g w wd) := (hGc.out.alloc _).grown hgrow (fun k hk => by have := hob k hk; have := HEQ.out; omega); have hBd : B ≤ wd.heap.size := Nat.le_trans (Nat.le_trans hBc (by simp)) hgrow.size; clear hown' hgrow hwhere hlt8 hown hob hYc hCc hGc hBc hSb)
      go_roundw
      case rel => exact ⟨k - 1, p + 1, ks ++ [x], hs ++ [1 + y], by have := HKP.out; go_num, by have := HKP.out; omega, by show _ = _; rw [List.length_append, HP.out]; rfl, by show _ = _; rw [List.length_append, HR.out]; rfl, hYd, hZd, hSd, hCd.out.mono (by omega), hGd, hBd⟩
      case measure => have := HKP.out; simp [intOf]; omega
    · have k1 : (k : Int) ≤ 0 := by omega
      obtain rfl : k = 0 := by omega
      have hp1 : 1 ≤ p := by omega
      obtain ⟨a2, c2, hv⟩ := hY.out.shape
      rw [HP.out] at hv
      subst hv
      obtain ⟨a3, c3, hv⟩ := hZ.out.shape
      rw [HR.out] at hv
      subst hv
      have HC0 : Hid (Cur wr g ao n c (M + 60)) := hC.out.mono (by omega)
      clear hC hkp
      go_wp2_with fail
      refine (pick_c g ao n c (M + 60) 20 _ (by omega) (by omega) HC0.out).mono ?_
      rintro e wa ⟨x, rfl, hx0, hx1, hc1, hg1⟩
      have hCa : Hid (Cur wa g ao n c (M + 62)) := hc1.mono (by omega)
      have hGa : Hid (GB g w wa) := hG.out.trans hg1
      have hYa : Hid (Own wa B (.slice a2 p c2) ks) := hY.out.kept hg1 (sep_own hY.out (by omega))
      have hZa : Hid (Own wa B (.slice a3 p c3) hs) := hZ.out.kept hg1 (sep_own hZ.out (by omega))
      have hBa : B ≤ wa.heap.size := Nat.le_trans hBr hg1.size
      clear hc1 hg1 HC0 hG hY hZ hBr
      by_cases hq0 : x = 0
      · subst hq0
        obtain ⟨gg, hgg, hgb⟩ := own_some hZa.out (by omega)
        subst hgg
        have hlit := lit_cells (fun _ => True) wa #[.int .i64 0, .int .i64 250, .int .i64 251] 3 3 rfl ⟨trivial, trivial, trivial, trivial⟩
        go_wp2_with fail
        refine (among_p (fun _ => True) g ao n c _ wa.heap.size 3 _ (by omega) (by omega) hlit (by omega) (hCa.out.alloc _)).mono ?_
        rintro e we ⟨zz, rfl, _, hc1, hg1⟩
        have C4 : Hid (Cur we g ao n c (M + 64)) := hc1.mono (by omega)
        have G4 : Hid (GB g w we) := (hGa.out.alloc _).trans hg1
        have Y4 : Hid (Own we B (.slice a2 p c2) ks) := (hYa.out.later (balloc _ _)).kept hg1 (sep_own (hYa.out.later (balloc wa (.cells #[.int .i64 0, .int .i64 250, .int .i64 251] 3))) (by omega))
        have Z4 : Hid (Own we B (.slice (some ⟨gg, 0, none⟩) p c3) hs) := (hZa.out.later (balloc _ _)).kept hg1 (sep_own (hZa.out.later (balloc wa (.cells #[.int .i64 0, .int .i64 250, .int .i64 251] 3))) (by omega))
        clear hc1 hg1 hCa hGa hYa hZa hlit
        have gc : we.cell? ⟨gg, 0, none⟩ = some (.int .i64 (hs.getD 0 0)) := by
          have h := Z4.out
          rw [← HR.out] at h
          exact h.cell 0 (by rw [HR.out]; omega)
        have gf : we.frozen? ⟨gg, 0, none⟩ = false := by
          have h := Z4.out
          rw [← HR.out] at h
          exact h.free 0
        have hgr : we.grownBy (we.setCell ⟨gg, 0, none⟩ (.int .i64 zz)) (some gg) := (GB.refl gg we).setCell _ _
        have Z5 : Hid (Own (we.setCell ⟨gg, 0, none⟩ (.int .i64 zz)) B (.slice (some ⟨gg, 0, none⟩) p c3) (hs.set 0 zz)) := own_set Z4.out 0 zz
        have Y5 : Hid (Own (we.setCell ⟨gg, 0, none⟩ (.int .i64 zz)) B (.slice a2 p c2) ks) := Y4.out.kept hgr hS.out.or
        have C5 : Hid (Cur (we.setCell ⟨gg, 0, none⟩ (.int .i64 zz)) g ao n c (M + 64)) := C4.out.grown (B := B) hgr (fun k hk => by simp at hk; omega) hgB hOB.out
        have G5 : Hid (GB g w (we.setCell ⟨gg, 0, none⟩ (.int .i64 zz))) := G4.out.grown hgr (fun k hk => by simp at hk; have := HEQ.out; omega)
        clear hgr C4 G4 Y4 Z4
        generalize hs.getD 0 0 = y0 at gc
        go_wp2
        refine bodyPost_ret (v := .tuple #[.slice a2 p c2, .slice (some ⟨gg, 0, none⟩) p c3]) (by simp [results, Try.results43, go_sem]; try rfl) rfl ?_
        exact ⟨a2, p, c2, ks, _, p, c3, hs.set 0 zz, rfl, hp1, by omega, hp1, by omega, HP.out, by rw [List.length_set]; exact HR.out, by rw [HEQ.out]; exact Y5.out, by rw [HEQ.out]; exact Z5.out, hS.out, C5.out.mono (by omega), G5.out⟩
      · have hxb : (x == 0) = false := by simpa using hq0
        by_cases hq1 : x = 1
        · subst hq1
          have hown : wa.ownsRow B 3 1 (.slice a2 p c2) p (cellsI ks) := by have h := hYa.out; unfold Own at h; rw [HP.out] at h; exact h
          have hob : ∀ k', (Value.slice a2 p c2).ownBlock = some k' → B ≤ k' := own_block_ge hYa.out
          have hone : ∀ u ∈ [Value.int .i64 5], u.oneCell' = true := ints_oneCell _ [5]
          clear hYa
          go_wp2_with (at_builtin; refine wpList_append_lies _ rfl _ _ 23 rfl B 3 i0 (.int .i64 0) 1 8 Try.underlying23 hi hz0 hz1 hz2 rfl (by decide) _ _ _ rfl (hown.alloc _) ⟨wa.heap.size, 0, none⟩ 1 1 [.int .i64 5] rfl rfl (cell_new1 _ _ _) hone (by decide) (by unfold maxLen; omega) (by omega) (by simp; omega) (wa.heap.size + 1) (by simp) ?_; intro g7 c7 wb hown' hgrow hwhere hlt7; have hYb : Hid (Own wb B (.slice (some ⟨g7, 0, none⟩) (p + 1) c7) (ks ++ [5])) := own_push (w := wa) (v := .slice a2 p c2) (by simpa [HP.out] using hown'); have hZb : Hid (Own wb B (.slice a3 p c3) hs) := (hZa.out.later (balloc wa _)).kept hgrow hS.out.symm.or; have hSb : Hid (Sep (.slice a3 p c3) (.slice (some ⟨g7, 0, none⟩) (p + 1) c7)) := hS.out.symm.app hwhere (fun k hk => by have := own_lt hZa.out k hk; omega); have hCb : Hid (Cur wb g ao n c (M + 62)) := (hCa.out.alloc _).grown hgrow hob hgB hOB.out; have hGb : Hid (GB g w wb) := (hGa.out.alloc _).grown hgrow (fun k hk => by have := hob k hk; have := HEQ.out; omega); clear hown' hgrow hwhere hlt7 hown hob hZa hCa hGa hBa)
          refine bodyPost_ret (v := .tuple #[.slice (some ⟨g7, 0, none⟩) (p + 1) c7, .slice a3 p c3]) (by simp [results, Try.results43, go_sem]; try rfl) rfl ?_
          exact ⟨_, p + 1, c7, ks ++ [5], a3, p, c3, hs, rfl, by omega, by omega, hp1, by omega, by rw [List.length_append, HP.out]; rfl, HR.out, by rw [HEQ.out]; exact hYb.out, by rw [HEQ.out]; exact hZb.out, hSb.out.symm, hCb.out.mono (by omega), hGb.out⟩
        · have hxc : (x == 1) = false := by simpa using hq1
          go_wp2
          refine bodyPost_ret (v := .tuple #[.slice a2 p c2, .slice a3 p c3]) (by simp [results, Try.results43, go_sem]; try rfl) rfl ?_
          exact ⟨a2, p, c2, ks, a3, p, c3, hs, rfl, hp1, by omega, hp1, by omega, HP.out, HR.out, by rw [HEQ.out]; exact hYa.out, by rw [HEQ.out]; exact hZa.out, hS.out, hCa.out.mono (by omega), hGa.out⟩

end Go.Proofs.Ytnfoflijapbkdaa
