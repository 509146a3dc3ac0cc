/- ShuffleBy of the specification: the contract. -/
import Derived.Test.YtlmamlhpjakcoaaSH4
namespace Go.Proofs.Ytlmamlhpjakcoaa
set_option linter.unusedVariables false
set_option linter.unusedSimpArgs false
open Go.RowKit

set_option maxHeartbeats 2000000 in
set_option maxRecDepth 1000000 in
theorem specShuf_at (b o n e g c B : Nat) (ds : List Int) (ls : List ByteArray) (w : World) (hd : ds.length = n) (hl : ls.length = n) (hn : n ≤ 9) (h0 : 0 < n) (hnn : nonneg ds = true)
    (hc : ∀ j, j < n → w.cell? ⟨b, o + j, none⟩ = some (.int .i64 (ds.getD j 0))) (ho : OwnS w B (.slice (some ⟨g, 0, none⟩) n c) ls) :
    Calls Try.prog 37 #[.slice (some ⟨b, o, none⟩) n e, .slice (some ⟨g, 0, none⟩) n c] w fun e w' => ∃ a' c', e = .returned (.tuple #[.slice a' n c', .bool true]) ∧ OwnS w' w.heap.size (.slice a' n c') (shufF ds (n - 1) ls) ∧ Below w.heap.size w w' := by
  obtain ⟨i0, hi, hz0, hz1, hz2⟩ := info_parts Try.infoStr
  have HD : Hid (ds.length = n) := hd
  have HL : Hid (ls.length = n) := hl
  have HC : Hid (∀ j, j < n → w.cell? ⟨b, o + j, none⟩ = some (.int .i64 (ds.getD j 0))) := hc
  have HNN : Hid (nonneg ds = true) := hnn
  have hcell : ∀ (wx : World), wx = w → ∀ j u, (cellsS ls)[j]? = some u → wx.cell? ((⟨g, 0, none⟩ : Addr).add j) = some u := fun wx hw j u hu => by
    rw [hw, Go.WideShapes.add_plain, Nat.zero_add]
    have hj : j < n := by have := (List.getElem?_eq_some_iff.1 hu).1; rw [cellsS_length] at this; omega
    unfold OwnS at ho
    rw [hl] at ho
    rw [World.ownsRow.cellAt ho j (by omega)]; exact hu
  have HCL : Hid (∀ (wx : World), Below w.heap.size w wx → ∀ j u, (cellsS ls)[j]? = some u → wx.cell? ((⟨g, 0, none⟩ : Addr).add j) = some u) := fun wx hb j u hu => by
    have h1 := hcell w rfl j u hu
    rw [Go.WideShapes.add_plain] at h1 ⊢
    rw [hb.cell (p := ⟨g, 0 + j, none⟩) (World.block_lt_of_cell? _ _ h1)]; exact h1
  have HLL : Hid ((cellsS ls).length = n * 1) := by show _ = _; rw [cellsS_length, hl, Nat.mul_one]
  obtain ⟨R, hR⟩ : ∃ R, R = shufF ds (n - 1) ls := ⟨_, rfl⟩
  rw [← hR]
  have HR : Hid (R = shufF ds (n - 1) ls) := hR
  have h9 : (n : Int) ≤ 9 := by omega
  have hnb : ((n : Int) != (n : Int)) = false := by simp
  have h9d : decide ((9 : Int) < (n : Int)) = false := decide_eq_false (by omega)
  clear hd hl hc hnn hcell ho hR
  go_enter Try.func37, Try.ntmps37
  go_wp2
  go_loop [24] (fun i => ∃ k : Nat, k ≤ n ∧ i = .int .i64 k) (fun i => n - (intOf i).toNat)
  case atStart => exact ⟨0, Nat.zero_le _, rfl⟩
  case round =>
    obtain ⟨k, hk, rfl⟩ := hrel
    by_cases hlt : k < n
    · have g1 := HC.out k hlt
      have hd0 : 0 ≤ ds.getD k 0 := nonneg_at HNN.out (by rw [HD.out]; exact hlt)
      generalize ds.getD k 0 = d at g1 hd0
      go_wp2
      go_round
      case rel => exact ⟨k + 1, by omega, by go_num⟩
      case measure => simp [intOf]; omega
    · obtain rfl : k = n := by omega
      go_wp2_with (at_builtin; refine wpList_append_own _ rfl _ _ 42 rfl w.heap.size 9 i0 (.string ByteArray.empty) 1 16 Try.underlying42 hi hz0 hz1 hz2 rfl (by decide) _ 0 [] rfl (nil_rowS w) ⟨g, 0, none⟩ k c (cellsS ls) rfl HLL.out (HCL.out _ (balloc w _)) (cellsS_oneCell ls) (by unfold maxLen; omega) (by omega) (by simp) ?_; intro v' w2 hown' hgrow _; have HO2 : Hid (OwnS w2 w.heap.size v' ls) := own_allS hown' HL.out; obtain ⟨g2, c2, hv2, hg2⟩ := own_formS HO2.out HL.out h0; subst hv2; have HB2 : Hid (Below w.heap.size w w2) := ((Below.refl _ w).alloc (Nat.le_refl _) _).grown hgrow (by simp) (fun k' e => by have e' : w.heap.size = k' := Option.some.inj e; omega); clear hown' hgrow)
      go_loopw [9] (fun i wr => ∃ (q : Nat) (cur : List ByteArray), q + 1 ≤ k ∧ i = .int .i64 q ∧ Hid (OwnS wr w.heap.size (.slice (some ⟨g2, 0, none⟩) k c2) cur) ∧ Hid (R = shufF ds q cur) ∧ Hid (Below w.heap.size w wr)) (fun i _ => (intOf i).toNat)
      case atStart => exact ⟨k - 1, ls, by omega, by go_num, HO2, HR, HB2⟩
      case round =>
        clear HO2 HR HB2
        obtain ⟨q, cur, hq, rfl, hO, hR, hB⟩ := hrel
        have hcl : cur.length = k := hO.out.rd'.1
        by_cases hq0 : 0 < q
        · have hbx := World.block_lt_of_cell? w _ (HC.out q (by omega))
          have g1 : wr.cell? ⟨b, o + q, none⟩ = some (.int .i64 (ds.getD q 0)) := by rw [hB.out.cell (p := ⟨b, o + q, none⟩) hbx]; exact HC.out q (by omega)
          have hd0 : 0 ≤ ds.getD q 0 := nonneg_at HNN.out (by rw [HD.out]; omega)
          obtain ⟨i, hi'⟩ : ∃ i, i = otherN ds q := ⟨_, rfl⟩
          have hiq : i ≤ q := by rw [hi']; exact other_lt hd0
          have hmod : (ds.getD q 0) % ((q : Int) + 1) = (i : Int) := by
            rw [hi', otherN]
            have := Int.emod_nonneg (ds.getD q 0) (show ((q : Int) + 1) ≠ 0 by omega)
            omega
          have hmod2 : (ds.getD q 0).tmod ((q : Int) + 1) = (i : Int) := by rw [Int.tmod_eq_emod_of_nonneg hd0]; exact hmod
          have HNX : Hid (R = shufF ds (q - 1) (swapS cur q i)) := by
            show _ = _
            rw [hR.out, hi']
            obtain ⟨p, rfl⟩ : ∃ p, q = p + 1 := ⟨q - 1, by omega⟩
            rfl
          have hst := hO.out.stored2 q i
          have HST : Hid (OwnS ((wr.setCell ⟨g2, q, none⟩ (.string (cur.getD i ByteArray.empty))).setCell ⟨g2, i, none⟩ (.string (cur.getD q ByteArray.empty))) w.heap.size (.slice (some ⟨g2, 0, none⟩) k c2) (swapS cur q i)) := hst
          have hO1 := hO.out
          have hO2 : wr.ownsRow w.heap.size 9 1 (.slice (some ⟨g2, 0, none⟩) k c2) k (cellsS cur) := by unfold OwnS at hO1; rw [hcl] at hO1; exact hO1
          have cq : wr.cell? ⟨g2, q, none⟩ = some (.string (cur.getD q ByteArray.empty)) := by rw [World.ownsRow.cellAt hO2 q (by omega)]; exact getD_map_str cur q (by omega)
          have ci : wr.cell? ⟨g2, i, none⟩ = some (.string (cur.getD i ByteArray.empty)) := by rw [World.ownsRow.cellAt hO2 i (by omega)]; exact getD_map_str cur i (by omega)
          have fq : wr.frozen? ⟨g2, q, none⟩ = false := World.ownsRow.frozenAt hO2 q
          have fi : wr.frozen? ⟨g2, i, none⟩ = false := World.ownsRow.frozenAt hO2 i
          obtain ⟨u, hu⟩ : ∃ u, (wr.setCell ⟨g2, q, none⟩ (.string (cur.getD i ByteArray.empty))).cell? ⟨g2, i, none⟩ = some (.string u) := by
            by_cases h : q = i
            · subst h; exact ⟨_, World.cell?_setCell_same _ _ _ cq⟩
            · exact ⟨_, by rw [World.cell?_setCell_other _ _ _ _ (fun e => h (by cases e; rfl))]; exact ci⟩
          generalize ds.getD q 0 = d at g1 hd0 hmod hmod2
          generalize cur.getD q ByteArray.empty = sq at cq HST
          generalize cur.getD i ByteArray.empty = si at ci HST hu
          have q0 : (0 : Int) ≤ (q : Int) := by omega
          have q1 : (q : Int) < (k : Int) := by omega
          have i1 : (0 : Int) ≤ (i : Int) := by omega
          have i2 : (i : Int) < (k : Int) := by omega
          have qne : ((q : Int) + 1) ≠ 0 := by omega
          have q1' : (1 : Int) ≤ (q : Int) := by omega
          have q2' : (0 : Int) < (q : Int) := by omega
          clear hR hst hO1 hO2 hbx hi' hcl hO
          go_wp2
          go_roundw
          case rel => exact ⟨q - 1, swapS cur q i, by omega, by go_num, HST, HNX, below_stored2 hB.out hg2 _ _ _ _⟩
          case measure => simp [intOf]; omega
        · obtain rfl : q = 0 := by omega
          have HE : Hid (R = cur) := hR
          clear hR
          go_wp2
          refine bodyPost_ret (v := .tuple #[.slice (some ⟨g2, 0, none⟩) k c2, .bool true]) (by simp [results, Try.results37, go_sem]; try rfl) rfl ?_
          exact ⟨_, _, rfl, by rw [HE.out]; exact hO.out, hB.out⟩


set_option maxHeartbeats 1000000 in
theorem specShuf_neg (b o n e : Nat) (bo : Option Addr) (c : Nat) (ds : List Int) (w : World) (hd : ds.length = n) (hn : n ≤ 9) (hnn : nonneg ds = false)
    (hc : ∀ j, j < n → w.cell? ⟨b, o + j, none⟩ = some (.int .i64 (ds.getD j 0))) :
    Calls Try.prog 37 #[.slice (some ⟨b, o, none⟩) n e, .slice bo n c] w fun e w' => e = .returned (.tuple #[.slice none 0 0, .bool false]) ∧ w' = w := by
  have HD : Hid (ds.length = n) := hd
  have HC : Hid (∀ j, j < n → w.cell? ⟨b, o + j, none⟩ = some (.int .i64 (ds.getD j 0))) := hc
  have HG : Hid (false = nonneg (ds.drop 0)) := by show _ = _; simpa using hnn.symm
  have h9 : (n : Int) ≤ 9 := by omega
  have hnb : ((n : Int) != (n : Int)) = false := by simp
  have h9d : decide ((9 : Int) < (n : Int)) = false := decide_eq_false (by omega)
  clear hd hc hnn
  go_enter Try.func37, Try.ntmps37
  go_wp2
  go_loop [24] (fun i => ∃ k : Nat, k ≤ n ∧ i = .int .i64 k ∧ Hid (false = nonneg (ds.drop k))) (fun i => n - (intOf i).toNat)
  case atStart => exact ⟨0, Nat.zero_le _, rfl, HG⟩
  case round =>
    clear HG
    obtain ⟨k, hk, rfl, hG⟩ := hrel
    by_cases hlt : k < n
    · have g1 := HC.out k hlt
      generalize hy : ds.getD k 0 = d at g1
      have HS : Hid (false = (decide (0 ≤ d) && nonneg (ds.drop (k + 1)))) := nonneg_step HD.out hlt hy hG.out
      clear hy hG
      by_cases hd0 : 0 ≤ d
      · have HN : Hid (false = nonneg (ds.drop (k + 1))) := by
          show _ = _
          have := HS.out
          rw [decide_eq_true hd0] at this
          simpa using this
        go_wp2
        go_round
        case rel => exact ⟨k + 1, by omega, by go_num, HN⟩
        case measure => simp [intOf]; omega
      · have hd1 : d < 0 := by omega
        clear hd0
        go_wp2
        refine bodyPost_ret (v := .tuple #[.slice none 0 0, .bool false]) (by simp [results, Try.results37, go_sem]; try rfl) rfl ?_
        exact ⟨rfl, rfl⟩
    · exact absurd (nonneg_end HD.out hlt hG.out) (by simp)

theorem specShuf_no (ao bo : Option Addr) (n e m c : Nat) (w : World) (hn : n ≤ 17592186044416) (hm : m ≤ 17592186044416) (h : 9 < m ∨ n ≠ m) :
    Calls Try.prog 37 #[.slice ao n e, .slice bo m c] w fun e w' => e = .returned (.tuple #[.slice none 0 0, .bool false]) ∧ w' = w := by
  by_cases h1 : 9 < m
  · have h9 : (9 : Int) < (m : Int) := by omega
    go_enter Try.func37, Try.ntmps37
    go_wp2
    refine bodyPost_ret (v := .tuple #[.slice none 0 0, .bool false]) (by simp [results, Try.results37, go_sem]; try rfl) rfl ?_
    exact ⟨rfl, rfl⟩
  · have h9 : (m : Int) ≤ 9 := by omega
    have hnb : ((n : Int) != (m : Int)) = true := by rw [bne_iff_ne]; omega
    have h9d : decide ((9 : Int) < (m : Int)) = false := decide_eq_false (by omega)
    clear h h1
    go_enter Try.func37, Try.ntmps37
    go_wp2
    refine bodyPost_ret (v := .tuple #[.slice none 0 0, .bool false]) (by simp [results, Try.results37, go_sem]; try rfl) rfl ?_
    exact ⟨rfl, rfl⟩

set_option maxHeartbeats 1000000 in
theorem specShuf_nil (ao : Option Addr) (e : Nat) (w : World) :
    Calls Try.prog 37 #[.slice ao 0 e, .slice none 0 0] w fun e w' => ∃ a' c', e = .returned (.tuple #[.slice a' 0 c', .bool true]) ∧ OwnS w' w.heap.size (.slice a' 0 c') [] ∧ Below w.heap.size w w' := by
  obtain ⟨i0, hi, hz0, hz1, hz2⟩ := info_parts Try.infoStr
  go_enter Try.func37, Try.ntmps37
  go_wp2
  refine wp_loop_rounds 1 ?_
  rw [rounds_succ]
  go_wp2_with (at_builtin; refine wpList_append_own_none rfl _ _ 42 rfl w.heap.size 9 i0 1 Try.underlying42 hi _ 0 [] rfl (nil_rowS w) rfl ?_)
  refine wp_loop_rounds 1 ?_
  rw [rounds_succ]
  go_wp2
  refine bodyPost_ret (v := .tuple #[.slice (some ⟨w.heap.size, 0, none⟩) 0 0, .bool true]) (by simp [results, Try.results37, go_sem]; try rfl) rfl ?_
  exact ⟨_, _, rfl, nil_rowS w, balloc w _⟩

set_option maxHeartbeats 1000000 in
theorem specShuf_nil2 (ao : Option Addr) (e g c : Nat) (w : World) :
    Calls Try.prog 37 #[.slice ao 0 e, .slice (some ⟨g, 0, none⟩) 0 c] w fun e w' => ∃ a' c', e = .returned (.tuple #[.slice a' 0 c', .bool true]) ∧ OwnS w' w.heap.size (.slice a' 0 c') [] ∧ Below w.heap.size w w' := by
  obtain ⟨i0, hi, hz0, hz1, hz2⟩ := info_parts Try.infoStr
  go_enter Try.func37, Try.ntmps37
  go_wp2
  refine wp_loop_rounds 1 ?_
  rw [rounds_succ]
  go_wp2_with (at_builtin; refine wpList_append_own _ rfl _ _ 42 rfl w.heap.size 9 i0 (.string ByteArray.empty) 1 16 Try.underlying42 hi hz0 hz1 hz2 rfl (by decide) _ 0 [] rfl (nil_rowS w) ⟨g, 0, none⟩ 0 c [] rfl rfl (fun j u h => by simp at h) (fun u h => by simp at h) (by unfold maxLen; omega) (by omega) (by simp) ?_; intro v' w2 hown' hgrow _; have HO2 : Hid (OwnS w2 w.heap.size v' []) := hown'; obtain ⟨a', c', hv⟩ := HO2.out.shape; subst hv; have HB2 : Hid (Below w.heap.size w w2) := ((Below.refl _ w).alloc (Nat.le_refl _) _).grown hgrow (by simp) (fun k' e => by have e' : w.heap.size = k' := Option.some.inj e; omega); clear hown' hgrow)
  refine wp_loop_rounds 1 ?_
  rw [rounds_succ]
  go_wp2
  refine bodyPost_ret (v := .tuple #[.slice a' 0 c', .bool true]) (by simp [results, Try.results37, go_sem]; try rfl) rfl ?_
  exact ⟨_, _, rfl, HO2.out, HB2.out⟩

theorem specShuf_c (ao bo : Option Addr) (n e m c B : Nat) (ds : List Int) (ls : List ByteArray) (w : World) (hd : ds.length = n) (hl : ls.length = m) (hn : n ≤ 17592186044416) (hm : m ≤ 17592186044416) (hr : Rd w ao ds) (ho : OwnS w B (.slice bo m c) ls) (zs : List ByteArray) (fb : Bool) (p : Nat) (hF : shuffleF ds ls = (zs, fb)) (hp : zs.length = p) :
    Calls Try.prog 37 #[.slice ao n e, .slice bo m c] w fun e w' => ∃ a' c', e = .returned (.tuple #[.slice a' p c', .bool fb]) ∧ OwnS w' w.heap.size (.slice a' p c') zs ∧ Below w.heap.size w w' := by
  unfold shuffleF at hF
  have key : ∀ (h : Calls Try.prog 37 #[.slice ao n e, .slice bo m c] w fun e w' => e = .returned (.tuple #[.slice none 0 0, .bool false]) ∧ w' = w), zs = [] → fb = false → Calls Try.prog 37 #[.slice ao n e, .slice bo m c] w fun e w' => ∃ a' c', e = .returned (.tuple #[.slice a' p c', .bool fb]) ∧ OwnS w' w.heap.size (.slice a' p c') zs ∧ Below w.heap.size w w' := by
    intro h e1 e2
    subst e1 e2
    simp at hp
    subst hp
    refine h.mono ?_
    rintro e w' ⟨rfl, hw⟩
    subst w'
    exact ⟨none, 0, rfl, World.ownsRow_nil _ _ _ _, Below.refl _ _⟩
  by_cases h : shufG ds ls = true
  · rw [if_pos h] at hF
    simp only [Prod.mk.injEq] at hF
    obtain ⟨rfl, rfl⟩ := hF
    simp only [shufG, Bool.and_eq_true, decide_eq_true_eq] at h
    obtain ⟨h1, h2, h3⟩ := h
    have hnm : n = m := by omega
    subst hnm
    rw [shufF_length, hl] at hp
    subst hp
    rcases ho.form with ⟨hv, hn0⟩ | ⟨g, cap, hv, _⟩
    · simp only [Value.slice.injEq] at hv
      obtain ⟨rfl, rfl, rfl⟩ := hv
      rw [hn0]
      exact specShuf_nil ao e w
    · simp only [Value.slice.injEq] at hv
      obtain ⟨rfl, _, rfl⟩ := hv
      by_cases h0 : n = 0
      · subst h0
        have : ls = [] := List.length_eq_zero_iff.1 hl
        subst this
        exact specShuf_nil2 ao e g c w
      · obtain ⟨b, o, rfl, hc⟩ := hr.at hd (by omega)
        rw [hl]
        exact specShuf_at b o n e g c B ds ls w hd hl (by omega) (by omega) h3 hc ho
  · rw [if_neg h] at hF
    simp only [Prod.mk.injEq] at hF
    by_cases h1 : 9 < m ∨ n ≠ m
    · exact key (specShuf_no ao bo n e m c w hn hm h1) hF.1.symm hF.2.symm
    · have hnm : n = m := by omega
      subst hnm
      have h3 : nonneg ds = false := by
        cases hh : nonneg ds with
        | false => rfl
        | true => exact absurd (by simp only [shufG, Bool.and_eq_true, decide_eq_true_eq]; exact ⟨by omega, by omega, hh⟩) h
      by_cases h0 : n = 0
      · have : ds = [] := List.length_eq_zero_iff.1 (by omega)
        rw [this] at h3
        simp [nonneg] at h3
      · obtain ⟨b, o, rfl, hc⟩ := hr.at hd (by omega)
        exact key (specShuf_neg b o n e bo c ds w hd (by omega) h3 hc) hF.1.symm hF.2.symm

end Go.Proofs.Ytlmamlhpjakcoaa
