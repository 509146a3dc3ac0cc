/- What the laws of chapter 5 draw: two lists of parts to be added. -/
import Derived.Test.YtamppekadobagaaD5D
import Derived.Laws.AppendOwnNone
namespace Go.Proofs.Ytamppekadobagaa
set_option linter.unusedVariables false
set_option linter.unusedSimpArgs false
open Go.RowKit

theorem RowP.setY {w : World} {base g off q c : Nat} {l : List (Int × Int)} (h : RowP w base (some ⟨g, off, none⟩) q c l) (i : Nat) (hi : i < q) (y : Int) : RowP (w.setCell ⟨g, off + i * 2 + 1, none⟩ (.int .i64 y)) base (some ⟨g, off, none⟩) q c (l.set i ((l.getD i (0, 0)).1, y)) := by
  refine ⟨by rw [List.length_set]; exact h.1, h.2.1, h.2.2.1, Or.inr ?_⟩
  obtain ⟨g', off', e, h1, h2, h3⟩ := h.at (by omega)
  cases e
  refine ⟨g, off, rfl, h1, by simpa using h2, fun j hj => ?_⟩
  obtain ⟨⟨c1, c2⟩, c3, c4⟩ := h3 j hj
  have hl : j < l.length := by rw [h.1]; exact hj
  refine ⟨?_, by simpa using c3, by simpa using c4⟩
  by_cases e : j = i
  · subst e
    have e1 : (l.set j ((l.getD j (0, 0)).1, y)).getD j (0, 0) = ((l.getD j (0, 0)).1, y) := by simp [List.getD, hl]
    rw [e1]
    exact ⟨by rw [World.cell?_setCell_other _ _ _ _ (by simp)]; exact c1, World.cell?_setCell_same _ _ _ c2⟩
  · have e1 : (l.set i ((l.getD i (0, 0)).1, y)).getD j (0, 0) = l.getD j (0, 0) := by simp [List.getD, List.getElem?_set, show i ≠ j by omega]
    rw [e1]
    exact ⟨by rw [World.cell?_setCell_other _ _ _ _ (by simp <;> omega)]; exact c1, by rw [World.cell?_setCell_other _ _ _ _ (by simp <;> omega)]; exact c2⟩
theorem RowP.setX {w : World} {base g off q c : Nat} {l : List (Int × Int)} (h : RowP w base (some ⟨g, off, none⟩) q c l) (i : Nat) (hi : i < q) (x : Int) : RowP (w.setCell ⟨g, off + i * 2, none⟩ (.int .i64 x)) base (some ⟨g, off, none⟩) q c (l.set i (x, (l.getD i (0, 0)).2)) := by
  refine ⟨by rw [List.length_set]; exact h.1, h.2.1, h.2.2.1, Or.inr ?_⟩
  obtain ⟨g', off', e, h1, h2, h3⟩ := h.at (by omega)
  cases e
  refine ⟨g, off, rfl, h1, by simpa using h2, fun j hj => ?_⟩
  obtain ⟨⟨c1, c2⟩, c3, c4⟩ := h3 j hj
  have hl : j < l.length := by rw [h.1]; exact hj
  refine ⟨?_, by simpa using c3, by simpa using c4⟩
  by_cases e : j = i
  · subst e
    have e1 : (l.set j (x, (l.getD j (0, 0)).2)).getD j (0, 0) = (x, (l.getD j (0, 0)).2) := by simp [List.getD, hl]
    rw [e1]
    exact ⟨World.cell?_setCell_same _ _ _ c1, by rw [World.cell?_setCell_other _ _ _ _ (by simp)]; exact c2⟩
  · have e1 : (l.set i (x, (l.getD i (0, 0)).2)).getD j (0, 0) = l.getD j (0, 0) := by simp [List.getD, List.getElem?_set, show i ≠ j by omega]
    rw [e1]
    exact ⟨by rw [World.cell?_setCell_other _ _ _ _ (by simp <;> omega)]; exact c1, by rw [World.cell?_setCell_other _ _ _ _ (by simp <;> omega)]; exact c2⟩

set_option maxHeartbeats 4000000 in
set_option maxRecDepth 1000000 in
theorem drawAdd_c (ao : Option Addr) (n c : Nat) (w : World) (hn : n ≤ 9223372036854775807) (h : CodeOk w w.heap.size ao n) :
    Calls Try.prog 23 #[.slice ao n c] w (DrawnPP w) := by
  obtain ⟨i0, hi, hz0', hz1, hz2⟩ := info_parts Try.infoPart
  have HOld : Hid (Old ao n w.heap.size) := h.old
  have C0 : Hid (Cur (w.alloc (.cells #[.slice ao n c, .int .i64 0, .int .u64 0] 66)) w.heap.size ao n c 0) := cur_new _ hn h
  have G0 : Hid (GB w.heap.size w (w.alloc (.cells #[.slice ao n c, .int .i64 0, .int .u64 0] 66))) := (GB.refl _ _).alloc _
  have hz0 : w.heap.size + 1 ≤ (w.alloc (.cells #[.slice ao n c, .int .i64 0, .int .u64 0] 66)).heap.size := by simp
  clear h
  go_enter Try.func23, Try.ntmps23
  go_wp2_with fail
  refine (parts_c w.heap.size ao n c 0 _ (by omega) C0.out).mono ?_
  rintro e w1 ⟨a1, q, c1, zs, rfl, hq9, ho, hc1, hg1⟩
  have C1 : Hid (Cur w1 w.heap.size ao n c 200) := hc1.mono (by omega)
  have G1 : Hid (GB w.heap.size w w1) := G0.out.trans hg1
  have O1 : Hid (RowP w1 (w.heap.size + 1) a1 q c1 zs) := row_mono ho hz0
  have hs1 : w.heap.size + 1 ≤ w1.heap.size := Nat.le_trans hz0 hg1.size
  clear hc1 hg1 ho C0 G0
  have hown1 : (w1.alloc (.cells #[] 46)).ownsRow w1.heap.size 46 2 (.slice (some ⟨w1.heap.size, 0, none⟩) 0 0) 0 (cellsP []) := by
    refine ⟨rfl, .inr ⟨w1.heap.size, 0, _, rfl, Nat.le_refl _, World.alloc_heap_new w1 _, Nat.le_refl _, by unfold maxLen; omega, rfl, rfl⟩⟩
  have hob1 : ∀ k', (Value.slice (some ⟨w1.heap.size, 0, none⟩) 0 0).ownBlock = some k' → w1.heap.size ≤ k' := fun k' e => by simp [Value.ownBlock] at e; omega
  have HR1 : Hid (RowP w1 (w.heap.size + 1) a1 q c1 zs) := O1
  have HOl1 : Hid (Old ao n w1.heap.size) := old_mono HOld.out (by omega)
  have hgl : w.heap.size < w1.heap.size := by omega
  clear O1
  rcases HR1.out.2.2.2 with ⟨hq0, hcn⟩ | ⟨ga, offa, hao, hga, hgas, hca⟩
  · cases a1 with
    | none =>
      obtain rfl : c1 = 0 := hcn rfl
      subst hq0
      go_wp2_with (at_builtin; refine wpList_append_own_none rfl _ _ 26 rfl w1.heap.size 46 i0 2 Try.underlying26 hi _ _ _ rfl hown1 rfl ?_)
      have hRb : RowP (w1.alloc (.cells #[] 46)) w1.heap.size (some ⟨w1.heap.size, 0, none⟩) 0 0 zs := ⟨HR1.out.1, Nat.le_refl _, by omega, Or.inl ⟨rfl, fun e => by cases e⟩⟩
      have GBz : Hid (GB w.heap.size w1 (w1.alloc (.cells #[] 46))) := (GB.refl _ _).alloc _
      have hzz : ¬ (0 : Int) < ((0 : Nat) : Int) := by omega
      go_wp2
      refine wp_loop_rounds 1 ?_
      rw [rounds_succ]
      go_wp2
      refine bodyPost_ret (v := .tuple #[.slice none 0 0, .slice (some ⟨w1.heap.size, 0, none⟩) 0 0]) (by simp [results, Try.results23, go_sem]; try rfl) rfl ?_
      exact ⟨none, 0, 0, zs, _, 0, zs, rfl, by omega, row_mono (HR1.out.later (balloc _ _)) (by omega), row_mono hRb (by omega), (G1.out.trans GBz.out).below (Nat.le_refl _) (Nat.le_refl _)⟩
    | some aa =>
      subst hq0
      have hze : zs = [] := List.length_eq_zero_iff.1 HR1.out.1
      have hnews : ∀ j u, (cellsP zs)[j]? = some u → w1.cell? (aa.add j) = some u := fun j u h => by rw [hze] at h; simp [cellsP] at h
      clear hze
      go_wp2_with (at_builtin; refine wpList_append_own _ rfl _ _ 26 rfl w1.heap.size 46 i0 (.agg #[.int .i64 0, .int .i64 0]) 2 16 Try.underlying26 hi hz0' hz1 hz2 rfl (by decide) _ _ _ rfl hown1 aa 0 c1 (cellsP zs) rfl (by rw [cellsP_length, HR1.out.1]) (fun j u h => calloc (hnews j u h)) (cellsP_one _) (by unfold maxLen; omega) (by omega) (by simp) ?_; intro v' x0 hown' hgrow _; have HO3 : Hid (OwnP x0 w1.heap.size v' zs) := (by show OwnP _ _ _ _; unfold OwnP; rw [HR1.out.1]; rw [show cellsP ([] : List (Int × Int)) = [] from rfl, List.nil_append] at hown'; exact hown'); have GB0 : Hid (GB w.heap.size w1 x0) := ((GB.refl _ _).alloc _).grown hgrow (fun k' e => hob1 k' e); obtain ⟨ab, cb, hv⟩ := HO3.out.shape; rw [HR1.out.1] at hv; subst hv; have hRb : RowP x0 w1.heap.size ab 0 cb zs := HO3.out.row; clear hown' hgrow hown1 hob1 C1 hnews)
      have hzz : ¬ (0 : Int) < ((0 : Nat) : Int) := by omega
      refine wp_loop_rounds 1 ?_
      rw [rounds_succ]
      go_wp2
      refine bodyPost_ret (v := .tuple #[.slice (some aa) 0 c1, .slice ab 0 cb]) (by simp [results, Try.results23, go_sem]; try rfl) rfl ?_
      exact ⟨_, 0, c1, zs, _, cb, zs, rfl, by omega, row_mono (HR1.out.kept GB0.out (by omega)) (by omega), row_mono hRb (by omega), (G1.out.trans GB0.out).below (Nat.le_refl _) (Nat.le_refl _)⟩
  · subst hao
    have hnews := rdP_cells (w := w1) (b := ga) (o := offa) HR1.out.1 (fun j hj => (hca j hj).1)
    clear hca
    go_wp2_with (at_builtin; refine wpList_append_own _ rfl _ _ 26 rfl w1.heap.size 46 i0 (.agg #[.int .i64 0, .int .i64 0]) 2 16 Try.underlying26 hi hz0' hz1 hz2 rfl (by decide) _ _ _ rfl hown1 ⟨ga, offa, none⟩ q c1 (cellsP zs) rfl (by rw [cellsP_length, HR1.out.1]) (fun j u h => calloc (hnews j u h)) (cellsP_one _) (by unfold maxLen; omega) (by omega) (by simp) ?_; intro v' x0 hown' hgrow _; have HO3 : Hid (OwnP x0 w1.heap.size v' zs) := (by show OwnP _ _ _ _; unfold OwnP; rw [HR1.out.1]; rw [show cellsP ([] : List (Int × Int)) = [] from rfl, List.nil_append, Nat.zero_add] at hown'; exact hown'); have GB0 : Hid (GB w.heap.size w1 x0) := ((GB.refl _ _).alloc _).grown hgrow (fun k' e => hob1 k' e); have CB0 : Hid (Cur x0 w.heap.size ao n c 200) := (C1.out.alloc _).grown (B := w1.heap.size) hgrow (fun k' e => hob1 k' e) hgl HOl1.out; obtain ⟨ab, cb, hv⟩ := HO3.out.shape; rw [HR1.out.1] at hv; subst hv; have HB0 : Hid (RowP x0 w1.heap.size ab q cb zs) := HO3.out.row; clear hown' hgrow hown1 hob1 C1 HO3)
    go_loopw [18] (fun i wr => ∃ (k : Nat) (l : List (Int × Int)), i = .int .i64 k ∧ k ≤ q ∧ Hid (RowP wr w1.heap.size ab q cb l) ∧ Hid (Cur wr w.heap.size ao n c (200 + 2 * k)) ∧ Hid (GB w.heap.size w1 wr)) (fun i _ => q - (intOf i).toNat)
    case atStart => exact ⟨0, zs, rfl, Nat.zero_le _, HB0, CB0.out.mono (by omega), GB0⟩
    case round =>
      clear HB0 CB0 GB0
      obtain ⟨k, l, rfl, hk, hR, hC, hG⟩ := hrel
      by_cases hlt : k < q
      · go_wp2_with fail
        refine (pick_c w.heap.size ao n c (200 + 2 * k) 200 _ (by omega) (by omega) hC.out).mono ?_
        rintro e x1 ⟨z, rfl, hz0, hz1, hc1, hg1⟩
        have C2 : Hid (Cur x1 w.heap.size ao n c (200 + 2 * k + 2)) := hc1
        have G2 : Hid (GB w.heap.size w1 x1) := hG.out.trans hg1
        have R2 : Hid (RowP x1 w1.heap.size ab q cb l) := hR.out.kept hg1 hgl
        clear hc1 hg1 hC hG hR
        obtain ⟨gg, off, hao, hgb, hgs, hcells⟩ := R2.out.at (by omega)
        subst hao
        obtain ⟨⟨d1, d2⟩, d3, d4⟩ := hcells k hlt
        have R3 : Hid (RowP (x1.setCell ⟨gg, off + k * 2 + 1, none⟩ (.int .i64 z)) w1.heap.size (some ⟨gg, off, none⟩) q cb (l.set k ((l.getD k (0, 0)).1, z))) := R2.out.setY k hlt z
        have C3 : Hid (Cur (x1.setCell ⟨gg, off + k * 2 + 1, none⟩ (.int .i64 z)) w.heap.size ao n c (200 + 2 * k + 2)) := C2.out.grown (B := w1.heap.size) (grown_set x1 gg _ _) (fun k hk => by simp at hk; omega) hgl HOl1.out
        have G3 : Hid (GB w.heap.size w1 (x1.setCell ⟨gg, off + k * 2 + 1, none⟩ (.int .i64 z))) := G2.out.grown (grown_set x1 gg _ _) (fun k hk => by simp at hk; omega)
        generalize (l.getD k (0, 0)).2 = y2 at d2
        have hk0 : (0 : Int) ≤ (k : Int) := by omega
        have hkq : (k : Int) < (q : Int) := by omega
        clear hcells d1 d3 R2 C2 G2
        go_wp2
        go_roundw
        case rel => exact ⟨k + 1, _, by go_num, by omega, R3, C3.out.mono (by omega), G3⟩
        case measure => simp [intOf]; omega
      · by_cases hq0 : q = 0
        · have hq1 : ¬ (0 : Int) < (q : Int) := by omega
          clear hq0
          go_wp2
          refine bodyPost_ret (v := .tuple #[.slice (some ⟨ga, offa, none⟩) q c1, .slice ab q cb]) (by simp [results, Try.results23, go_sem]; try rfl) rfl ?_
          exact ⟨_, q, c1, zs, ab, cb, l, rfl, hq9, row_mono (HR1.out.kept hG.out (by omega)) (by omega), row_mono hR.out (by omega), (G1.out.trans hG.out).below (Nat.le_refl _) (Nat.le_refl _)⟩
        · have hq1 : (0 : Int) < (q : Int) := by omega
          have hqn : 0 < q := by omega
          clear hq0
          go_wp2_with fail
          refine (one_c w.heap.size ao n c (200 + 2 * k) 8 _ (by omega) (by omega) hC.out).mono ?_
          rintro e x1 ⟨b1, rfl, hc1, hg1⟩
          have G2 : Hid (GB w.heap.size w1 x1) := hG.out.trans hg1
          have R2 : Hid (RowP x1 w1.heap.size ab q cb l) := hR.out.kept hg1 hgl
          clear hc1 hg1 hC hG hR
          cases b1
          · skip
            go_wp2
            refine bodyPost_ret (v := .tuple #[.slice (some ⟨ga, offa, none⟩) q c1, .slice ab q cb]) (by simp [results, Try.results23, go_sem]; try rfl) rfl ?_
            exact ⟨_, q, c1, zs, ab, cb, l, rfl, hq9, row_mono (HR1.out.kept G2.out (by omega)) (by omega), row_mono R2.out (by omega), (G1.out.trans G2.out).below (Nat.le_refl _) (Nat.le_refl _)⟩
          · obtain ⟨gg, off, hao, hgb, hgs, hcells⟩ := R2.out.at (by omega)
            subst hao
            obtain ⟨⟨d1, d2⟩, d3, d4⟩ := hcells 0 hqn
            obtain ⟨v, hv⟩ : ∃ v, wrap64 ((l.getD 0 (0, 0)).1 + 1) = v := ⟨_, rfl⟩
            have R3 := R2.out.setX 0 hqn v
            rw [Nat.zero_mul, Nat.add_zero] at d1 d3 R3
            have R4 : Hid (∃ l', RowP (x1.setCell ⟨gg, off, none⟩ (.int .i64 v)) w1.heap.size (some ⟨gg, off, none⟩) q cb l') := ⟨_, R3⟩
            have G3 : Hid (GB w.heap.size w1 (x1.setCell ⟨gg, off, none⟩ (.int .i64 v))) := G2.out.grown (grown_set x1 gg _ _) (fun k hk => by simp at hk; omega)
            generalize (l.getD 0 (0, 0)).1 = y1 at d1 hv
            clear hcells d2 d4 R2 G2 R3
            go_wp2
            refine bodyPost_ret (v := .tuple #[.slice (some ⟨ga, offa, none⟩) q c1, .slice (some ⟨gg, off, none⟩) q cb]) (by simp [results, Try.results23, go_sem]; try rfl) rfl ?_
            obtain ⟨l', h1⟩ := R4.out
            exact ⟨_, q, c1, zs, _, cb, l', rfl, hq9, row_mono (HR1.out.kept G3.out (by omega)) (by omega), row_mono h1 (by omega), (G1.out.trans G3.out).below (Nat.le_refl _) (Nat.le_refl _)⟩

end Go.Proofs.Ytamppekadobagaa
