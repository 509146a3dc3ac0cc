/- Chapter 15: nearingWay of the program, whole. -/
import Derived.Test.YtbjpkklonjlmiaaNW15
namespace Go.Proofs.Ytbjpkklonjlmiaa
set_option linter.unusedVariables false
set_option maxRecDepth 1000000
set_option linter.unusedSimpArgs false
open Go.RowKit Go.Sort

/-- A number is put behind a row of numbers. -/
theorem push1_run (w : World) (base : Nat) (v : Value) (xs : List Int) (x : Int) (hown : Own w base v xs) (hl : xs.length ≤ 1000) (hb : base ≤ w.heap.size) :
    ∃ g cap w', (∀ ty, (Builtin.append_ #[24, 24] ty #[v, .slice (some ⟨w.heap.size, 0, none⟩) 1 1]).run Try.prog (w.alloc (.cells #[.int .i64 x] 3)) = .ok (.slice (some ⟨g, 0, none⟩) (xs.length + 1) cap) w') ∧ Own w' base (.slice (some ⟨g, 0, none⟩) (xs.length + 1) cap) (xs ++ [x]) ∧ w.grownBy w' v.ownBlock ∧ (v.ownBlock = some g ∨ g = w.heap.size + 1) ∧ g < w'.heap.size := by
  obtain ⟨i0, hi, hz0, hz1, hz2⟩ := info_parts Try.infoInt
  have hsz : (w.alloc (.cells #[.int .i64 x] 3)).heap.size = w.heap.size + 1 := by simp
  have ho2 : Own (w.alloc (.cells #[.int .i64 x] 3)) base v xs := hown.later (balloc w _)
  have hnew : ∀ j u, ([Value.int .i64 x] : List Value)[j]? = some u → (w.alloc (.cells #[.int .i64 x] 3)).cell? ((⟨w.heap.size, 0, none⟩ : Addr).add j) = some u := cell_new1 w _ _
  obtain ⟨g, cap, w', hrun, how, hg, hgg, hlt⟩ := run_append_lies (P := Try.prog) (w := w.alloc (.cells #[.int .i64 x] 3)) 24 24 base 3 i0 (.int .i64 0) 1 8 Try.underlying24 hi hz0 hz1 hz2 rfl (by decide) v xs.length (cellsI xs) ho2 ⟨w.heap.size, 0, none⟩ 1 1 [.int .i64 x] rfl hnew (by intro y hy; simp at hy; subst hy; rfl) (by decide) (by unfold maxLen; omega) (by omega) (by omega) (w.heap.size + 1) hsz
  refine ⟨g, cap, w', fun ty => hrun, ?_, World.grownBy.trans (World.grownBy_alloc w _ _) hg, hgg, hlt⟩
  unfold Own
  rw [List.length_append, show cellsI (xs ++ [x]) = cellsI xs ++ [Value.int .i64 x] by simp [cellsI]]
  exact how

/-- How long a slice is. -/
def lenOf15 : Value → Nat
  | .slice _ n _ => n
  | _ => 0

set_option maxHeartbeats 8000000 in
theorem nearingWay_c (t : TbV) (bg a n fc : Nat) (ao : Option Addr) (far : List Int) (so : Option Addr) (m sc : Nat) (ys : List Stp) (w : World) (hg : GoodT t) (hn : n = t.s.toNat) (hfar : far = farT t bg) (hbg : bg < n) (hl : far.length = n) (ha : a < n) (hf0 : 0 ≤ far.getD a 0) (hr : Rd w ao far) (hm : ys.length = m) (hm30 : m ≤ 30) (hp : ys.Perm (stT t.ps t.ps.length)) (hri : RisT ys) (hs : RdQ w so ys) :
    Calls Try.prog 49 #[.int .i64 a, .slice ao n fc, .slice so m sc] w fun e w' => ∃ a' c', e = .returned (.slice a' (wayL t.ps far n a).length c') ∧ Own w' w.heap.size (.slice a' (wayL t.ps far n a).length c') (wayL t.ps far n a) ∧ Below w.heap.size w w' := by
  have hsb := (hg.stB (Nat.le_refl _)).perm hp
  rw [← hn] at hsb
  have hok : FarOk (stT t.ps t.ps.length) n bg n far := by
    rw [hfar]
    unfold farT farL
    rw [← hn]
    have := hg.stB (Nat.le_refl t.ps.length)
    rw [← hn] at this
    exact farN_ok this hbg n
  have hn6 : n ≤ 6 := by rw [hn]; have := hg.s6; omega
  have HLO : Hid (∀ i, i < n → -100 ≤ far.getD i 0 ∧ far.getD i 0 ≤ 100) := fun i hi => ⟨by have := hok.lo i hi; omega, by have := hok.hi i hi; omega⟩
  have HEX : Hid (∀ i, i < n → 1 ≤ far.getD i 0 → ∃ j, j < m ∧ nearB far i (ys.getD j (0, 0, 0)) = true) := fun i hi h1 => by
    obtain ⟨y, hy, e1, e2⟩ := hok.near i hi h1
    have hb2 := hsb y (hp.mem_iff.2 hy)
    obtain ⟨j, hj, e⟩ := of_mem_getD (0, 0, 0) (hp.mem_iff.2 hy)
    exact ⟨j, by rw [← hm]; exact hj, nearB_iff.2 (by rw [e]; exact ⟨by omega, e2⟩)⟩
  have HNF : Hid (∀ (i j : Nat), j < m → nearB far i (ys.getD j (0, 0, 0)) = true → (∀ q, q < j → nearB far i (ys.getD q (0, 0, 0)) = false) → (ys.getD j (0, 0, 0)).2.1.toNat < n ∧ okS t.ps far i (ys.getD j (0, 0, 0)).2.1.toNat = true ∧ (∀ q, q < (ys.getD j (0, 0, 0)).2.1.toNat → okS t.ps far i q = false) ∧ prN t.ps i ((ys.getD j (0, 0, 0)).2.1.toNat : Nat) = (ys.getD j (0, 0, 0)).2.2) := fun i j hj h1 h2 => by
    obtain ⟨e1, e2⟩ := nearB_iff.1 h1
    exact near_first hg hn hp hri (by rw [hm]; exact hj) e1 e2 (fun q hq h => by have := h2 q hq; rw [nearB_iff.2 h] at this; cases this)
  have HM : Hid (ys.length = m) := hm
  have HSB : Hid (StB n t.ps.length ys) := hsb
  have HL : Hid (far.length = n) := hl
  have HRF : Hid (∀ wx, Below w.heap.size w wx → Rd wx ao far) := fun wx h => hr.later h
  have HRS : Hid (∀ wx, Below w.heap.size w wx → RdQ wx so ys) := fun wx h => hs.later h
  have hwl : (wayL t.ps far n a).length ≤ 6 := by
    have := wayF_length t.ps far n (far.getD a 0).toNat a
    have h2 := hok.hi a ha
    unfold wayL
    omega
  have HWL : Hid ((wayL t.ps far n a).length ≤ 6) := hwl
  obtain ⟨W, hW⟩ : ∃ W, wayL t.ps far n a = W := ⟨_, rfl⟩
  rw [hW] at HWL ⊢
  have HW0 : Hid (([] : List Int) ++ wayL t.ps far n a = W) := by show _ = _; rw [List.nil_append]; exact hW
  obtain ⟨i0, hi, hz0, hz1, hz2⟩ := info_parts Try.infoInt
  clear hr hs hm hp hri hsb hok hl hfar hg hn hW hwl
  -- the boxes: far, at
  have hbF := balloc w (.cells #[.slice ao n fc] 24)
  have hcF : (w.alloc (.cells #[.slice ao n fc] 24)).cell? ⟨w.heap.size, 0, none⟩ = some (.slice ao n fc) := by simp
  obtain ⟨F, hF⟩ : ∃ X, w.alloc (.cells #[.slice ao n fc] 24) = X := ⟨_, rfl⟩
  rw [hF] at hbF hcF
  have hFs : w.heap.size + 1 = F.heap.size := by rw [← hF]; simp
  have hbA := balloc F (.cells #[.int .i64 0] 3)
  have hcA : (F.alloc (.cells #[.int .i64 0] 3)).cell? ⟨F.heap.size, 0, none⟩ = some (.int .i64 0) := by simp
  have hzA : (F.alloc (.cells #[.int .i64 0] 3)).frozen? ⟨F.heap.size, 0, none⟩ = false := by simp
  obtain ⟨A, hA⟩ : ∃ X, F.alloc (.cells #[.int .i64 0] 3) = X := ⟨_, rfl⟩
  rw [hA] at hbA hcA hzA
  have hAs : F.heap.size + 1 = A.heap.size := by rw [← hA]; simp
  have hbB : Below w.heap.size w (A.setCell ⟨F.heap.size, 0, none⟩ (.int .i64 a)) := (hbF.trans (hbA.mono hbF.size)).setCell (by show w.heap.size ≤ F.heap.size; omega) _
  have hcB : (A.setCell ⟨F.heap.size, 0, none⟩ (.int .i64 a)).cell? ⟨F.heap.size, 0, none⟩ = some (.int .i64 a) := World.cell?_setCell_same' _ _ _ (by rw [hcA]; rfl)
  have hzB : (A.setCell ⟨F.heap.size, 0, none⟩ (.int .i64 a)).frozen? ⟨F.heap.size, 0, none⟩ = false := by rw [World.frozen?_setCell]; exact hzA
  have hcF2 : (A.setCell ⟨F.heap.size, 0, none⟩ (.int .i64 a)).cell? ⟨w.heap.size, 0, none⟩ = some (.slice ao n fc) := by
    rw [World.cell?_setCell_other _ _ _ _ (by intro e; injection e with e1; omega)]
    exact cell_keep (S := 0) hbA hcF
  obtain ⟨B, hB⟩ : ∃ X, A.setCell ⟨F.heap.size, 0, none⟩ (.int .i64 a) = X := ⟨_, rfl⟩
  rw [hB] at hbB hcB hzB hcF2
  have HBB : Hid (Below w.heap.size w B) := hbB
  have HCB : Hid (B.cell? ⟨F.heap.size, 0, none⟩ = some (.int .i64 a) ∧ B.frozen? ⟨F.heap.size, 0, none⟩ = false ∧ B.cell? ⟨w.heap.size, 0, none⟩ = some (.slice ao n fc)) := ⟨hcB, hzB, hcF2⟩
  have hBs : F.heap.size < B.heap.size := World.block_lt_of_cell? B _ hcB
  clear hbF hcF hbA hbB hcB hzB hcF2
  go_enter Try.func49, Try.ntmps49
  go_wp2_with fail
  go_loopw [7, 8] (fun ov pv wr => ∃ (s g : Nat) (pre : List Int) (a' : Option Addr) (c' : Nat), ov = .slice a' pre.length c' ∧ pv = .pointer (some ⟨g, 0, none⟩) ∧ s < n ∧ w.heap.size < g ∧ g < wr.heap.size ∧ Hid (0 ≤ far.getD s 0) ∧ Hid (pre ++ wayL t.ps far n s = W) ∧ Hid (wr.cell? ⟨g, 0, none⟩ = some (.int .i64 s) ∧ wr.frozen? ⟨g, 0, none⟩ = false ∧ wr.cell? ⟨w.heap.size, 0, none⟩ = some (.slice ao n fc)) ∧ Hid (Own wr (w.heap.size + 1) (.slice a' pre.length c') pre) ∧ Hid ((Value.slice a' pre.length c').ownBlock ≠ some g) ∧ Hid (Below w.heap.size w wr)) (fun ov _ _ => W.length - lenOf15 ov)
  case atStart => exact ⟨a, F.heap.size, [], none, 0, rfl, rfl, ha, by omega, hBs, hf0, HW0.out, HCB.out, nilOwn _ _, by show (Value.slice none 0 0).ownBlock ≠ _; simp [Value.ownBlock], HBB⟩
  case round =>
    clear HCB HBB HW0 hf0 hF hA hB hzA hcA hFs hAs hBs
    obtain ⟨s, g, pre, a', c', rfl, rfl, hs, hg1, hg2, HP, HE, HC, HO, HN, HB⟩ := hrel
    obtain ⟨ca, fza, cfar⟩ := HC.out
    have hsl : s < far.length := by rw [HL.out]; exact hs
    obtain ⟨fb, fo, rfl, ga⟩ := (HRF.out wr HB.out).get hsl
    have s0 : (0 : Int) ≤ (s : Int) := by omega
    have s1 : (s : Int) < (n : Int) := by omega
    clear hsl
    by_cases hpos : 0 < far.getD s 0
    case neg =>
      have hpe : pre = W := by
        have := HE.out
        rw [wayL_end (by omega), List.append_nil] at this
        exact this
      subst hpe
      have hle : ¬ far.getD s 0 > 0 := hpos
      clear HP HE HN hpos HWL HEX HNF HRF
      generalize far.getD s 0 = fs at ga hle
      go_wp2
      go_ret
      exact ⟨_, _, rfl, HO.out.mono (by omega), HB.out⟩
    have hq := indexSt_c g w.heap.size s n fc t.ps.length _ far so m sc ys wr HL.out hs (HLO.out s hs) (HRF.out wr HB.out) ca cfar HM.out hm30 HSB.out (HRS.out wr HB.out) (HEX.out s hs (by omega))
    have HPO : Hid (0 < far.getD s 0) := hpos
    have hgt : far.getD s 0 > 0 := hpos
    clear hpos HP HEX
    have ga2 := ga
    generalize hfs : far.getD s 0 = fs at ga2 hgt
    rw [hfs] at ga
    clear ga2 hfs
    go_wp2_with fail
    refine hq.mono ?_
    clear hq ga hgt
    rintro e w1 ⟨i, rfl, him, hnb, hnf, hb1⟩
    have HB1 : Hid (Below w.heap.size w w1) := HB.out.trans (hb1.mono HB.out.size)
    have hil : i < ys.length := by rw [HM.out]; exact him
    obtain ⟨b, o, rfl, u0, u1, u2⟩ := (HRS.out w1 HB1.out).get hil
    have hy := HSB.out _ (mem_getD (0, 0, 0) hil)
    obtain ⟨hyn, hok, hno, hpr⟩ := HNF.out s i him hnb hnf
    have hws := wayL_step (ps := t.ps) (n := n) HPO.out hyn hok hno
    rw [hpr] at hws
    have hfy := (okS_iff.1 hok).2
    clear hnb hnf hok hno hpr hil
    generalize ys.getD i (0, 0, 0) = y at u0 u1 u2 hy hyn hws hfy
    obtain ⟨y0, y1, y2⟩ := y
    obtain ⟨tt, htt⟩ : ∃ tt : Nat, y1 = (tt : Int) := ⟨y1.toNat, by have := hy.2.2.1; dsimp only at this; omega⟩
    subst htt
    dsimp only at hy u0 u1 u2 hyn hws hfy
    rw [Int.toNat_natCast] at hyn hws hfy
    have HP2 : Hid (0 ≤ far.getD tt 0) := by have := HPO.out; show _ ≤ _; omega
    have HE2 : Hid ((pre ++ [y2]) ++ wayL t.ps far n tt = W) := by
      show _ = _
      rw [List.append_assoc, ← HE.out, hws]
      rfl
    have hWl : pre.length + 1 ≤ W.length := by rw [← HE2.out]; simp
    have hpl : pre.length ≤ 1000 := by have := HWL.out; omega
    have i0' : (0 : Int) ≤ (i : Int) := by omega
    have i1' : (i : Int) < (m : Int) := by omega
    clear hy hws hfy HE HPO
    -- the step's box
    have hX := x3_new w1 (.int .i64 0) (.int .i64 0) (.int .i64 0) 78 w1.heap.size rfl
    have hbU := balloc w1 (.cells #[.int .i64 0, .int .i64 0, .int .i64 0] 78)
    obtain ⟨U, hU⟩ : ∃ X, w1.alloc (.cells #[.int .i64 0, .int .i64 0, .int .i64 0] 78) = X := ⟨_, rfl⟩
    rw [hU] at hX hbU
    have hXF := ((hX.set0 (.int .i64 y0)).set1 (.int .i64 tt)).set2 (.int .i64 y2)
    have hbV : Below w1.heap.size w1 (((U.setCell ⟨w1.heap.size, 0, none⟩ (.int .i64 y0)).setCell ⟨w1.heap.size, 1, none⟩ (.int .i64 tt)).setCell ⟨w1.heap.size, 2, none⟩ (.int .i64 y2)) := ((hbU.setCell (Nat.le_refl _) _).setCell (Nat.le_refl _) _).setCell (Nat.le_refl _) _
    obtain ⟨⟨c0, c1x, c2x⟩, fz⟩ := hX
    have z0 := fz 0
    have z1 := fz 1
    have z2 := fz 2
    clear fz
    obtain ⟨G, hG⟩ : ∃ X, ((U.setCell ⟨w1.heap.size, 0, none⟩ (.int .i64 y0)).setCell ⟨w1.heap.size, 1, none⟩ (.int .i64 tt)).setCell ⟨w1.heap.size, 2, none⟩ (.int .i64 y2) = X := ⟨_, rfl⟩
    rw [hG] at hXF hbV
    have hwG : w1.heap.size < G.heap.size := by
      have := World.block_lt_of_cell? G _ hXF.1.1
      exact this
    have HOG := (HO.out.later hb1).later hbV
    have hbG := hb1.trans (hbV.mono hb1.size)
    have cfG := cell_keep (S := 0) hbG cfar
    have caG := cell_keep (S := 0) hbG ca
    have fzG : G.frozen? ⟨g, 0, none⟩ = false := by rw [hbG.frozen (p := ⟨g, 0, none⟩) hg2]; exact fza
    obtain ⟨g3, cap3, w3, hrun, hO3, hgr, hgg, hlt3⟩ := push1_run G (w.heap.size + 1) (.slice a' pre.length c') pre y2 HOG hpl (by have := hbG.size; omega)
    obtain ⟨⟨e0, e1, e2⟩, _⟩ := hXF
    have hown3 : ∀ k, (Value.slice a' pre.length c').ownBlock = some k → w.heap.size + 1 ≤ k ∧ k < wr.heap.size := by
      intro k hk
      rcases HO.out.addr with ⟨h, _⟩ | ⟨q, h, h1, h2⟩
      · rw [h] at hk; simp [Value.ownBlock] at hk
      · rw [h] at hk; simp [Value.ownBlock] at hk; omega
    have f1 := (World.grownBy.cell_far hgr ⟨w1.heap.size, 1, none⟩ hwG (fun e => by have := hown3 w1.heap.size e.symm; have := hb1.size; omega)).trans e1
    have cf3 := (World.grownBy.cell_far hgr ⟨w.heap.size, 0, none⟩ (by have := hbG.size; show w.heap.size < _; omega) (fun e => by have := hown3 w.heap.size e.symm; omega)).trans cfG
    have ca3 := (World.grownBy.cell_far hgr ⟨g, 0, none⟩ (by have := hbG.size; show g < _; omega) (fun e => HN.out e.symm)).trans caG
    have fz3 := (World.grownBy.frozen_far hgr ⟨g, 0, none⟩ (by have := hbG.size; show g < _; omega) (fun e => HN.out e.symm)).trans fzG
    have hg3 : g3 ≠ g := by
      intro e
      rcases hgg with h | h
      · rw [e] at h; exact HN.out h
      · have := hbG.size; omega
    have hg3w : w.heap.size < g3 := by
      rcases hgg with h | h
      · have := hown3 _ h; omega
      · have := hbG.size; omega
    have hB3 : Below w.heap.size w w3 := (HB.out.trans (hbG.mono HB.out.size)).grown hgr (by have := hbG.size; omega) (fun k h => by have := hown3 _ h; omega)
    -- the seat is stored
    have caD : (w3.setCell ⟨g, 0, none⟩ (.int .i64 tt)).cell? ⟨g, 0, none⟩ = some (.int .i64 tt) := World.cell?_setCell_same' _ _ _ (by rw [ca3]; rfl)
    have cfD : (w3.setCell ⟨g, 0, none⟩ (.int .i64 tt)).cell? ⟨w.heap.size, 0, none⟩ = some (.slice (some ⟨fb, fo, none⟩) n fc) := by
      rw [World.cell?_setCell_other _ _ _ _ (by intro e; injection e with e1; omega)]
      exact cf3
    have hOD := hO3.kept (grown_setCell w3 g 0 (.int .i64 tt)) (Or.inr (by simp only [Value.ownBlock, ne_eq, Option.some.injEq]; exact hg3))
    have hBD := hB3.setCell (p := ⟨g, 0, none⟩) (by show w.heap.size ≤ g; omega) (.int .i64 tt)
    obtain ⟨D, hD⟩ : ∃ X, w3.setCell ⟨g, 0, none⟩ (.int .i64 tt) = X := ⟨_, rfl⟩
    rw [hD] at caD cfD hOD hBD
    have hg3D : g3 < D.heap.size := by
      rcases hOD.addr with ⟨h, _⟩ | ⟨q, h, h1, h2⟩
      · cases h
      · simp at h; omega
    -- the next round's box
    have hbA := balloc D (.cells #[.int .i64 0] 3)
    have hcA : (D.alloc (.cells #[.int .i64 0] 3)).cell? ⟨D.heap.size, 0, none⟩ = some (.int .i64 0) := by simp
    have hzA : (D.alloc (.cells #[.int .i64 0] 3)).frozen? ⟨D.heap.size, 0, none⟩ = false := by simp
    obtain ⟨A2, hA⟩ : ∃ X, D.alloc (.cells #[.int .i64 0] 3) = X := ⟨_, rfl⟩
    rw [hA] at hbA hcA hzA
    have hbE : Below D.heap.size D (A2.setCell ⟨D.heap.size, 0, none⟩ (.int .i64 tt)) := hbA.setCell (Nat.le_refl _) _
    have hcE : (A2.setCell ⟨D.heap.size, 0, none⟩ (.int .i64 tt)).cell? ⟨D.heap.size, 0, none⟩ = some (.int .i64 tt) := World.cell?_setCell_same' _ _ _ (by rw [hcA]; rfl)
    have hzE : (A2.setCell ⟨D.heap.size, 0, none⟩ (.int .i64 tt)).frozen? ⟨D.heap.size, 0, none⟩ = false := by rw [World.frozen?_setCell]; exact hzA
    obtain ⟨E, hE⟩ : ∃ X, A2.setCell ⟨D.heap.size, 0, none⟩ (.int .i64 tt) = X := ⟨_, rfl⟩
    rw [hE] at hbE hcE hzE
    have HC2 : Hid (E.cell? ⟨D.heap.size, 0, none⟩ = some (.int .i64 tt) ∧ E.frozen? ⟨D.heap.size, 0, none⟩ = false ∧ E.cell? ⟨w.heap.size, 0, none⟩ = some (.slice (some ⟨fb, fo, none⟩) n fc)) := ⟨hcE, hzE, cell_keep (S := 0) hbE cfD⟩
    have HO2 : Hid (Own E (w.heap.size + 1) (.slice (some ⟨g3, 0, none⟩) (pre.length + 1) cap3) (pre ++ [y2])) := hOD.later hbE
    have HB2 : Hid (Below w.heap.size w E) := hBD.trans (hbE.mono hBD.size)
    have hDE : D.heap.size < E.heap.size := World.block_lt_of_cell? E _ hcE
    have hwD : w.heap.size < D.heap.size := by omega
    have HN2 : Hid ((Value.slice (some ⟨g3, 0, none⟩) (pre.length + 1) cap3).ownBlock ≠ some D.heap.size) := by show _ ≠ _; simp [Value.ownBlock]; omega
    clear hbA hbE hcE hzE hOD hBD cfD hB3 hg3w hg3 cf3 hown3 hgg hgr hlt3 hO3 cfG caG fzG hbG HOG hbV hbU HC HO HN HB hb1 ca fza cfar hg3D
    go_wp2_with (at_builtin; refine Lib.wpList_append_run _ rfl _ _ _ _ rfl _ _ rfl rfl _ _ (hrun _) ?_; clear hrun e0 e2)
    go_roundw
    case rel => exact ⟨tt, D.heap.size, pre ++ [y2], some ⟨g3, 0, none⟩, cap3, by simp, by rfl, hyn, hwD, hDE, HP2, HE2, HC2, by rw [List.length_append]; exact HO2, by rw [List.length_append]; exact HN2, HB2⟩
    case measure => simp [lenOf15]; omega

end Go.Proofs.Ytbjpkklonjlmiaa
