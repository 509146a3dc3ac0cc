/- The contracts of the specification's l1Less and LessBig. -/
import Derived.Test.YtaedplfihjfchaaRelAddh
namespace Go.Proofs.Ytaedplfihjfchaa
set_option linter.unusedVariables false
set_option maxRecDepth 1000000
set_option linter.unusedSimpArgs false
open Go.RowKit

set_option maxHeartbeats 1000000 in
theorem l1Less_c (ao bo : Option Addr) (n m c d : Nat) (xs ys : List Int) (w : World) (hx : xs.length = n) (hy : ys.length = m) (hn : n ≤ 1000000000) (hmn : m ≤ n) (hr : Rd w ao xs) (hs : Rd w bo ys) (dx : Digs xs) (dy : Digs ys) (hle : val ys ≤ val xs) (p : Nat) (hp : (bigL (val xs - val ys)).length = p) :
    Calls Try.prog 47 #[.slice ao n c, .slice bo m d] w fun e w' => ∃ a' c', e = .returned (.slice a' p c') ∧ Own w' w.heap.size (.slice a' p c') (bigL (val xs - val ys)) ∧ Below w.heap.size w w' := by
  obtain ⟨i0, hi, hz0, hz1, hz2⟩ := info_parts Try.infoInt
  have HX : Hid (xs.length = n) := hx
  have HY : Hid (ys.length = m) := hy
  have HR : Hid (Rd w ao xs) := hr
  have HS : Hid (Rd w bo ys) := hs
  have HD : Hid (Digs xs ∧ Digs ys) := ⟨dx, dy⟩
  have HP : Hid ((bigL (val xs - val ys)).length = p) := hp
  have HL : Hid (val ys ≤ val xs) := hle
  clear hx hy hr hs dx dy hp hle
  go_enter Try.func47, Try.ntmps47
  go_wp2
  go_loopw [5, 6, 11] (fun v bv i wr => ∃ (k : Nat) (b : Int) (out : List Int), i = .int .i64 k ∧ bv = .int .i64 b ∧ 0 ≤ b ∧ b ≤ 1 ∧ k ≤ n ∧ Hid (Own wr w.heap.size v out) ∧ Hid (out.length = k ∧ Digs out ∧ val (out ++ [val (xs.drop k) - val (ys.drop k) - b]) = val xs - val ys) ∧ Hid (Below w.heap.size w wr)) (fun _ _ i _ => n - (intOf i).toNat)
  case atStart => exact ⟨0, 0, [], rfl, rfl, by omega, by omega, by omega, World.ownsRow_nil _ _ _ _, ⟨rfl, digs_nil, by simp [val]⟩, Below.refl _ _⟩
  case round =>
    obtain ⟨k, b, out, rfl, rfl, b0, b1, hk, hO, hV, hB⟩ := hrel
    by_cases hlt : k < n
    · rcases HR.out with h0 | ⟨ba, oa, hao, hca⟩
      · have := HX.out; rw [h0] at this; simp at this; omega
      have g1 : wr.cell? ⟨ba, oa + k, none⟩ = some (.int .i64 (xs.getD k 0)) := by have := hca k (by rw [HX.out]; exact hlt); rw [hB.out.cell (p := ⟨ba, oa + k, none⟩) (World.block_lt_of_cell? w _ this)]; exact this
      subst hao
      have dX := HD.out.1.getD k
      have dY := HD.out.2.getD k
      have HV2 : Hid (val (out ++ [val (xs.drop k) - val (ys.drop k) - b]) = val xs - val ys) := hV.out.2.2
      generalize hgx : xs.getD k 0 = x at g1 dX
      generalize hgy : ys.getD k 0 = y at dY
      have HGX : Hid (xs.getD k 0 = x) := hgx
      have HGY : Hid (ys.getD k 0 = y) := hgy
      have hown : wr.ownsRow w.heap.size 3 1 u5 out.length (cellsI out) := hO.out
      have HOl : Hid (out.length = k) := hV.out.1
      have hol : out.length ≤ n := by rw [HOl.out]; omega
      have hob : ∀ k', u5.ownBlock = some k' → w.heap.size ≤ k' := own_block_ge hO.out
      clear hgx hgy hca
      by_cases hneg : x - y - b < 0
      · have HQ : ∀ nq, Calls Try.prog 42 #[.slice bo m d, .int .i64 (k : Int)] (wr.drewN nq) fun e w' => e = .returned (.int .i64 y) ∧ w' = wr.drewN nq := fun nq => by
          have h := l1At_c bo m d k ys (wr.drewN nq) HY.out (by omega) (by omega) (HS.out.later (below_drewN hB.out nq))
          rw [HGY.out] at h
          exact h
        have HQ1 : Hid (∀ nq, Calls Try.prog 42 #[.slice bo m d, .int .i64 (k : Int)] (wr.drewN nq) fun e w' => e = .returned (.int .i64 y) ∧ w' = wr.drewN nq) := HQ
        clear HQ
        go_wp2
        go_quiet ((go_at_call 42; exact Calls.quiet_of_same (HQ1.out _)))
        have hownq : (wr.drewN nq).ownsRow w.heap.size 3 1 u5 out.length (cellsI out) := hown
        have HBq : Hid (Below w.heap.size w (wr.drewN nq)) := below_drewN hB.out nq
        clear HQ1 g1 hown
        generalize wr.drewN nq = wq at *
        go_wp2_with (at_builtin; refine wpList_append_own _ rfl _ _ 23 rfl w.heap.size 3 i0 (.int .i64 0) 1 8 Try.underlying23 hi hz0 hz1 hz2 rfl (by decide) _ _ _ rfl (hownq.alloc _) ⟨wq.heap.size, 0, none⟩ 1 1 [.int .i64 (x - y - b + 65536)] rfl rfl (cell_new1 _ _ _) (ints_oneCell .i64 [x - y - b + 65536]) (by unfold maxLen; omega) (by omega) (by have := HBq.out.size; simp; omega) ?_; intro v' w2 hown' hgrow _; have HO' : Hid (Own w2 w.heap.size v' (out ++ [x - y - b + 65536])) := own_push (w := wq) (v := u5) hown'; have HB' : Hid (Below w.heap.size w w2) := (HBq.out.alloc HBq.out.size _).grown hgrow (by have := HBq.out.size; simp; omega) (fun k' e => hob k' e); clear hown' hgrow)
        go_roundw
        case rel => exact ⟨k + 1, 1, out ++ [x - y - b + 65536], by go_num, rfl, by omega, by omega, by omega, HO', ⟨by simp; exact HOl.out, hV.out.2.1.append (digs_cons (by omega) (by omega) digs_nil), sub_round HV2.out (by rw [HGX.out, HGY.out]) (by omega)⟩, HB'⟩
        case measure => simp [intOf]; omega
      · have HQ : ∀ nq, Calls Try.prog 42 #[.slice bo m d, .int .i64 (k : Int)] (wr.drewN nq) fun e w' => e = .returned (.int .i64 y) ∧ w' = wr.drewN nq := fun nq => by
          have h := l1At_c bo m d k ys (wr.drewN nq) HY.out (by omega) (by omega) (HS.out.later (below_drewN hB.out nq))
          rw [HGY.out] at h
          exact h
        have HQ1 : Hid (∀ nq, Calls Try.prog 42 #[.slice bo m d, .int .i64 (k : Int)] (wr.drewN nq) fun e w' => e = .returned (.int .i64 y) ∧ w' = wr.drewN nq) := HQ
        clear HQ
        go_wp2
        go_quiet ((go_at_call 42; exact Calls.quiet_of_same (HQ1.out _)))
        have hownq : (wr.drewN nq).ownsRow w.heap.size 3 1 u5 out.length (cellsI out) := hown
        have HBq : Hid (Below w.heap.size w (wr.drewN nq)) := below_drewN hB.out nq
        clear HQ1 g1 hown
        generalize wr.drewN nq = wq at *
        go_wp2_with (at_builtin; refine wpList_append_own _ rfl _ _ 23 rfl w.heap.size 3 i0 (.int .i64 0) 1 8 Try.underlying23 hi hz0 hz1 hz2 rfl (by decide) _ _ _ rfl (hownq.alloc _) ⟨wq.heap.size, 0, none⟩ 1 1 [.int .i64 (x - y - b)] rfl rfl (cell_new1 _ _ _) (ints_oneCell .i64 [x - y - b]) (by unfold maxLen; omega) (by omega) (by have := HBq.out.size; simp; omega) ?_; intro v' w2 hown' hgrow _; have HO' : Hid (Own w2 w.heap.size v' (out ++ [x - y - b])) := own_push (w := wq) (v := u5) hown'; have HB' : Hid (Below w.heap.size w w2) := (HBq.out.alloc HBq.out.size _).grown hgrow (by have := HBq.out.size; simp; omega) (fun k' e => hob k' e); clear hown' hgrow)
        go_roundw
        case rel => exact ⟨k + 1, 0, out ++ [x - y - b], by go_num, rfl, by omega, by omega, by omega, HO', ⟨by simp; exact HOl.out, hV.out.2.1.append (digs_cons (by omega) (by omega) digs_nil), sub_round HV2.out (by rw [HGX.out, HGY.out]) (by omega)⟩, HB'⟩
        case measure => simp [intOf]; omega
    · obtain rfl : k = n := by omega
      obtain ⟨a5, c5, hv5⟩ := hO.out.shape
      subst hv5
      have HN : Hid (val out = val xs - val ys) := by
        have h1 := hV.out.2.2
        rw [List.drop_eq_nil_of_le (by rw [HX.out]; omega), List.drop_eq_nil_of_le (by rw [HY.out]; omega)] at h1
        simp only [val] at h1
        by_cases hb : b = 0
        · subst hb
          simp only [Int.sub_self, Int.sub_zero] at h1
          rw [val_snoc_zero] at h1
          exact h1
        · have := val_snoc_neg (l := out) (t := 0 - 0 - b) hV.out.2.1 (by omega)
          have := HL.out
          omega
      go_wp2_with fail
      refine (l1Trim_c a5 out.length c5 out _ (by rw [hV.out.1]; omega) hO.out.rdS).mono ?_
      have ht : trim out = bigL (val xs - val ys) := by rw [trim_bigL hV.out.2.1, HN.out]
      have hO2 := hO.out.trimmed
      rw [ht] at hO2
      rw [ht, HP.out]
      rw [HP.out] at hO2
      have HO2 : Hid (Own wr w.heap.size (.slice a5 p c5) (bigL (val xs - val ys))) := hO2
      clear ht hO2
      rintro e w1 ⟨rfl, hw, _⟩
      subst w1
      go_wp2
      go_ret
      exact ⟨a5, c5, rfl, HO2.out, hB.out⟩

def lessF (xs ys : List Int) : List Int × Bool := if goodB xs && goodB ys then (if val xs < val ys then ([], false) else tellF (val xs - val ys)) else ([], false)

set_option maxHeartbeats 1000000 in
theorem specLess_c (ao bo : Option Addr) (n m c d : Nat) (xs ys : List Int) (w : World) (hx : xs.length = n) (hy : ys.length = m) (hn : n ≤ 17592186044416) (hm : m ≤ 17592186044416) (hr : Rd w ao xs) (hs : Rd w bo ys) (zs : List Int) (fb : Bool) (p : Nat) (hF : lessF xs ys = (zs, fb)) (hp : zs.length = p) :
    Calls Try.prog 18 #[.agg #[.slice ao n c], .agg #[.slice bo m d]] w fun e w' => ∃ a' c', e = .returned (.tuple #[.agg #[.slice a' p c'], .bool fb]) ∧ Own w' w.heap.size (.slice a' p c') zs ∧ Below w.heap.size w w' := by
  have HX : Hid (xs.length = n) := hx
  have HY : Hid (ys.length = m) := hy
  have HR : Hid (Rd w ao xs) := hr
  have HS : Hid (Rd w bo ys) := hs
  have HP : Hid (zs.length = p) := hp
  have HB0 : Hid (Below w.heap.size w (((w.alloc (Obj.cells #[Value.slice ao n c] 25)).alloc (Obj.cells #[Value.slice bo m d] 25)).alloc (Obj.cells #[Value.slice none 0 0] 25))) := below_three w _ _ _
  clear hx hy hr hs hp
  cases hg : (goodB xs && goodB ys)
  · rw [lessF, hg] at hF
    simp only [Bool.false_eq_true, if_false, Prod.mk.injEq] at hF
    obtain ⟨rfl, rfl⟩ := hF
    have hp0 := HP.out
    simp at hp0
    subst hp0
    go_enter Try.func18, Try.ntmps18
    go_wp2_with fail
    refine (l1Both_c ao bo n m c d xs ys _ HX.out HY.out hn hm (HR.out.later HB0.out) (HS.out.later HB0.out)).mono ?_
    rw [hg]
    rintro e w1 ⟨rfl, hb⟩
    have HB1 : Hid (Below w.heap.size w w1) := HB0.out.trans (hb.mono (by simp; omega))
    have r1 : w1.cell? ⟨w.heap.size + 1 + 1, 0, none⟩ = some (.slice none 0 0) := cell_keep (S := 0) hb (by rw [World.cell?_alloc_at _ _ _ _ (by simp)]; rfl)
    have f1 : w1.frozen? ⟨w.heap.size + 1 + 1, 0, none⟩ = false := fcell_keep hb (by simp) (fz3 _ _ _ _ _ _ _)
    clear hb hg
    go_wp2
    refine bodyPost_ret (v := .tuple #[.agg #[.slice none 0 0], .bool false]) (by simp [results, Try.results18, go_sem, r1]) rfl ⟨none, 0, rfl, World.ownsRow_nil _ _ _ _, ?_⟩
    exact HB1.out.setCell (by simp; omega) _
  · rw [lessF, hg] at hF
    simp only [if_true] at hF
    by_cases hv : val xs < val ys
    · rw [if_pos hv] at hF
      simp only [Prod.mk.injEq] at hF
      obtain ⟨rfl, rfl⟩ := hF
      have hp0 := HP.out
      simp at hp0
      subst hp0
      have HG : Hid (goodB xs = true ∧ goodB ys = true) := by have h := hg; simp at h; exact h
      have HC : Hid (cmpI (val xs) (val ys) = -1) := cmpI_lt hv
      go_enter Try.func18, Try.ntmps18
      go_wp2_with fail
      refine (l1Both_c ao bo n m c d xs ys _ HX.out HY.out hn hm (HR.out.later HB0.out) (HS.out.later HB0.out)).mono ?_
      rw [hg]
      rintro e w1 ⟨rfl, hb⟩
      have HB1 : Hid (Below w.heap.size w w1) := HB0.out.trans (hb.mono (by simp; omega))
      have x1 : w1.cell? ⟨w.heap.size, 0, none⟩ = some (.slice ao n c) := cell_keep (S := 0) hb (calloc (calloc (by simp)))
      have y1 : w1.cell? ⟨w.heap.size + 1, 0, none⟩ = some (.slice bo m d) := cell_keep (S := 0) hb (calloc (by simp))
      have r1 : w1.cell? ⟨w.heap.size + 1 + 1, 0, none⟩ = some (.slice none 0 0) := cell_keep (S := 0) hb (by rw [World.cell?_alloc_at _ _ _ _ (by simp)]; rfl)
      have f1 : w1.frozen? ⟨w.heap.size + 1 + 1, 0, none⟩ = false := fcell_keep hb (by simp) (fz3 _ _ _ _ _ _ _)
      have l1 : w.heap.size + 1 + 1 < w1.heap.size := World.block_lt_of_cell? _ _ r1
      clear hb hg
      go_wp2_with fail
      refine (l1Compare_c ao bo n m c d xs ys _ HX.out HY.out hn hm (HR.out.later HB1.out) (HS.out.later HB1.out) (goodB_digs HG.out.1).2.1 (goodB_digs HG.out.2).2.1 (goodB_digs HG.out.1).2.2 (goodB_digs HG.out.2).2.2).mono ?_
      rw [HC.out]
      rintro e w2 ⟨rfl, hb⟩
      have HB2 : Hid (Below w.heap.size w w2) := HB1.out.trans (hb.mono HB1.out.size)
      have r2 : w2.cell? ⟨w.heap.size + 1 + 1, 0, none⟩ = some (.slice none 0 0) := cell_keep (S := 0) hb r1
      have f2 : w2.frozen? ⟨w.heap.size + 1 + 1, 0, none⟩ = false := fcell_keep hb l1 f1
      clear hb r1 f1 x1 y1
      go_wp2
      refine bodyPost_ret (v := .tuple #[.agg #[.slice none 0 0], .bool false]) (by simp [results, Try.results18, go_sem, r2]) rfl ⟨none, 0, rfl, World.ownsRow_nil _ _ _ _, ?_⟩
      exact HB2.out.setCell (by simp; omega) _
    rw [if_neg hv] at hF
    have HC : Hid (0 ≤ cmpI (val xs) (val ys)) := by
      show 0 ≤ _
      unfold cmpI; rw [if_neg hv]; split <;> omega
    have hmn : m ≤ n := by
      rw [← HX.out, ← HY.out]
      have h := hg
      simp at h
      rcases Nat.lt_or_ge xs.length ys.length with hl | hl
      · exact absurd (val_lt_len (goodB_digs h.1).2.1 (goodB_digs h.2).2.1 (goodB_digs h.2).2.2 hl) hv
      · exact hl
    have HV : Hid (val ys ≤ val xs) := by show _ ≤ _; omega
    clear hv
    have HF : Hid (tellF (val xs - val ys) = (zs, fb)) := hF
    have HG : Hid (goodB xs = true ∧ goodB ys = true) := by have h := hg; simp at h; exact h
    have hn6 : n ≤ 6 := by have := (goodB_digs HG.out.1).1; rw [HX.out] at this; exact this
    have hm6 : m ≤ 6 := by have := (goodB_digs HG.out.2).1; rw [HY.out] at this; exact this
    clear hF
    go_enter Try.func18, Try.ntmps18
    go_wp2_with fail
    refine (l1Both_c ao bo n m c d xs ys _ HX.out HY.out hn hm (HR.out.later HB0.out) (HS.out.later HB0.out)).mono ?_
    rw [hg]
    rintro e w1 ⟨rfl, hb⟩
    have HB1 : Hid (Below w.heap.size w w1) := HB0.out.trans (hb.mono (by simp; omega))
    have x1 : w1.cell? ⟨w.heap.size, 0, none⟩ = some (.slice ao n c) := cell_keep (S := 0) hb (calloc (calloc (by simp)))
    have y1 : w1.cell? ⟨w.heap.size + 1, 0, none⟩ = some (.slice bo m d) := cell_keep (S := 0) hb (calloc (by simp))
    have r1 : w1.cell? ⟨w.heap.size + 1 + 1, 0, none⟩ = some (.slice none 0 0) := cell_keep (S := 0) hb (by rw [World.cell?_alloc_at _ _ _ _ (by simp)]; rfl)
    have f1 : w1.frozen? ⟨w.heap.size + 1 + 1, 0, none⟩ = false := fcell_keep hb (by simp) (fz3 _ _ _ _ _ _ _)
    have l1 : w.heap.size + 1 + 1 < w1.heap.size := World.block_lt_of_cell? _ _ r1
    clear hb hg
    have dx := (goodB_digs HG.out.1).2.1
    have dy := (goodB_digs HG.out.2).2.1
    have v0 := val_nonneg dx
    have v1 := val_nonneg dy
    obtain ⟨q, hq⟩ : ∃ q, (bigL (val xs - val ys)).length = q := ⟨_, rfl⟩
    have HQ : Hid ((bigL (val xs - val ys)).length = q) := hq
    have hvv := HV.out
    have hq7 : q ≤ 1000000000 := by
      rw [← hq]
      have h1 := val_lt6 dx (goodB_digs HG.out.1).1
      exact bigL_short (by omega) (by omega)
    have HD : Hid (Digs (bigL (val xs - val ys)) ∧ val (bigL (val xs - val ys)) = val xs - val ys) := ⟨(bigL_spec (by omega)).1, (bigL_spec (by omega)).2.1⟩
    have HXY : Hid (Digs xs ∧ Digs ys) := ⟨dx, dy⟩
    clear dx dy v0 v1 hq hvv
    go_wp2_with fail
    refine (l1Compare_c ao bo n m c d xs ys _ HX.out HY.out hn hm (HR.out.later HB1.out) (HS.out.later HB1.out) (goodB_digs HG.out.1).2.1 (goodB_digs HG.out.2).2.1 (goodB_digs HG.out.1).2.2 (goodB_digs HG.out.2).2.2).mono ?_
    obtain ⟨cc, hcc⟩ : ∃ cc, cmpI (val xs) (val ys) = cc := ⟨_, rfl⟩
    rw [hcc]
    have hc0 : 0 ≤ cc := by rw [← hcc]; exact HC.out
    clear hcc
    rintro e w1b ⟨rfl, hb⟩
    have HB1b : Hid (Below w.heap.size w w1b) := HB1.out.trans (hb.mono HB1.out.size)
    have x1b : w1b.cell? ⟨w.heap.size, 0, none⟩ = some (.slice ao n c) := cell_keep (S := 0) hb x1
    have y1b : w1b.cell? ⟨w.heap.size + 1, 0, none⟩ = some (.slice bo m d) := cell_keep (S := 0) hb y1
    have r1b : w1b.cell? ⟨w.heap.size + 1 + 1, 0, none⟩ = some (.slice none 0 0) := cell_keep (S := 0) hb r1
    have f1b : w1b.frozen? ⟨w.heap.size + 1 + 1, 0, none⟩ = false := fcell_keep hb l1 f1
    have l1b : w.heap.size + 1 + 1 < w1b.heap.size := World.block_lt_of_cell? _ _ r1b
    clear hb r1 f1 x1 y1 l1
    go_wp2_with fail
    refine (l1Less_c ao bo n m c d xs ys _ HX.out HY.out (by omega) hmn (HR.out.later HB1b.out) (HS.out.later HB1b.out) HXY.out.1 HXY.out.2 HV.out q HQ.out).mono ?_
    rintro e w2 ⟨a2, c2, rfl, ho, hb⟩
    have HB2 : Hid (Below w.heap.size w w2) := HB1b.out.trans (hb.mono HB1b.out.size)
    have r2 : w2.cell? ⟨w.heap.size + 1 + 1, 0, none⟩ = some (.slice none 0 0) := cell_keep (S := 0) hb r1b
    have f2 : w2.frozen? ⟨w.heap.size + 1 + 1, 0, none⟩ = false := fcell_keep hb l1b f1b
    have l2 : w.heap.size + 1 + 1 < w2.heap.size := World.block_lt_of_cell? _ _ r2
    have HO2 : Hid (Own w2 w1b.heap.size (.slice a2 q c2) (bigL (val xs - val ys))) := ho
    clear hb ho r1b f1b x1b y1b l1b
    go_wp2_with fail
    refine (l1Tell_c a2 q c2 (bigL (val xs - val ys)) _ (by omega) HO2.out.rdS HD.out.1 zs fb p (by rw [HD.out.2]; exact HF.out) HP.out).mono ?_
    rintro e w3 ⟨a3, c3, rfl, ho, hb⟩
    have HB3 : Hid (Below w.heap.size w w3) := HB2.out.trans (hb.mono HB2.out.size)
    have r3 : w3.cell? ⟨w.heap.size + 1 + 1, 0, none⟩ = some (.slice none 0 0) := cell_keep (S := 0) hb r2
    have f3 : w3.frozen? ⟨w.heap.size + 1 + 1, 0, none⟩ = false := fcell_keep hb l2 f2
    have HO3 : Hid (Own w3 w2.heap.size (.slice a3 p c3) zs) := ho
    clear hb ho r2 f2
    go_wp2
    refine bodyPost_ret (v := .tuple #[.agg #[.slice a3 p c3], .bool fb]) (by simp [results, Try.results18, go_sem, r3]) rfl ⟨a3, c3, rfl, ?_, ?_⟩
    · exact (own_set_below HO3.out (by omega) _).mono (by omega)
    · exact HB3.out.setCell (by simp; omega) _

end Go.Proofs.Ytaedplfihjfchaa
