/- Chapter 11: ProofFor of both sides, for trips whose hands are numbered from 0 on; receipts compared. -/
import Derived.Test.YtdhnolafkgkliaaDoorDP11
namespace Go.Proofs.YtdhnolafkgkliaaDoor
set_option linter.unusedVariables false
set_option maxRecDepth 1000000
set_option linter.unusedSimpArgs false
open Go.RowKit

theorem gaveL_succ {h : Int} {rs : List Rc} {k : Nat} (hk : k < rs.length) : gaveL h (rs.take (k + 1)) = if (rs.getD k (0, 0, 0, 0)).1 = h then gaveL h (rs.take k) ++ [rs.getD k (0, 0, 0, 0)] else gaveL h (rs.take k) := by
  unfold gaveL
  rw [List.take_succ_eq_append_getElem hk, List.filter_append]
  have e : rs.getD k (0, 0, 0, 0) = rs[k] := by simp [List.getD, hk]
  rw [e]
  by_cases hx : rs[k].1 = h
  · simp [hx]
  · simp [hx]

theorem gaveL_len (h : Int) (rs : List Rc) : (gaveL h rs).length ≤ rs.length := List.length_filter_le _ _

theorem mem_take_succ {xs : List Int} {k : Nat} {h : Int} (hk : k < xs.length) (hn : h ∉ xs.take k) (hx : xs.getD k 0 ≠ h) : h ∉ xs.take (k + 1) := by
  rw [take_snoc hk]
  intro hm
  rcases List.mem_append.1 hm with h1 | h1
  · exact hn h1
  · simp at h1; exact hx (by simpa using h1.symm)

theorem mem_hands {n : Nat} {h : Int} : h ∈ handsL n ↔ 0 ≤ h ∧ h < n := by
  unfold handsL
  simp only [List.mem_map, List.mem_range]
  constructor
  · rintro ⟨k, hk, rfl⟩; omega
  · intro hh; exact ⟨h.toNat, by omega, by omega⟩

set_option maxHeartbeats 1000000 in
theorem l1Has_c (ao : Option Addr) (n c : Nat) (xs : List Int) (h : Int) (w : World) (hx : xs.length = n) (hn : n ≤ 17592186044416) (hr : Rd w ao xs) :
    Calls Tryd.prog 72 #[.slice ao n c, .int .i64 h] w fun e w' => e = .returned (.bool (decide (h ∈ xs))) ∧ w' = w := by
  have HX : Hid (xs.length = n) := hx
  have HR : Hid (Rd w ao xs) := hr
  clear hx hr
  go_enter Tryd.func72, Tryd.ntmps72
  go_wp2
  go_loop [9] (fun iv => ∃ (k : Nat), k ≤ n ∧ iv = .int .i64 k ∧ Hid (h ∉ xs.take k)) (fun iv => n - (intOf iv).toNat)
  case atStart => exact ⟨0, Nat.zero_le _, rfl, by show ¬ _; simp⟩
  case round =>
    obtain ⟨k, hk, rfl, HS⟩ := hrel
    by_cases hlt : k < n
    · have hkl : k < xs.length := by rw [HX.out]; exact hlt
      obtain ⟨b, o, rfl, g1⟩ := Rd.get HR.out hkl
      have hno : xs.getD k 0 ≠ h → h ∉ xs.take (k + 1) := fun e => mem_take_succ hkl HS.out e
      have hyes : xs.getD k 0 = h → h ∈ xs := fun e => by rw [← e]; exact mem_getD 0 hkl
      generalize xs.getD k 0 = x at g1 hno hyes
      have h0 : (0 : Int) ≤ (k : Int) := by omega
      have hl : (k : Int) < (n : Int) := by omega
      clear hkl
      by_cases hxh : x = h
      · have HY : Hid (h ∈ xs) := hyes hxh
        have e1 : (x == h) = true := by rw [beq_iff_eq]; exact hxh
        clear hno hyes hxh
        go_wp2
        go_ret
        exact ⟨ret_bool (by rw [decide_eq_true HY.out]), rfl⟩
      · have HN : Hid (h ∉ xs.take (k + 1)) := hno hxh
        have e1 : (x == h) = false := by rw [beq_eq_false_iff_ne]; exact hxh
        clear hno hyes hxh
        go_wp2
        go_round
        case rel => exact ⟨k + 1, by omega, by go_num, HN⟩
        case measure => simp [intOf]; omega
    · obtain rfl : k = n := by omega
      have HN : Hid (h ∉ xs) := by have := HS.out; rwa [List.take_of_length_le (by rw [HX.out]; exact Nat.le_refl _)] at this
      go_wp2
      go_ret
      exact ⟨ret_bool (by rw [decide_eq_false HN.out]), rfl⟩

set_option maxHeartbeats 1000000 in
theorem indexI_c (ao : Option Addr) (n c : Nat) (xs : List Int) (h : Int) (w : World) (hx : xs.length = n) (hn : n ≤ 17592186044416) (hr : Rd w ao xs) :
    Calls Tryd.prog 82 #[.slice ao n c, .int .i64 h] w fun e w' => ∃ r : Int, e = .returned (.int .i64 r) ∧ decide (0 ≤ r) = decide (h ∈ xs) ∧ w' = w := by
  have HX : Hid (xs.length = n) := hx
  have HR : Hid (Rd w ao xs) := hr
  clear hx hr
  go_enter Tryd.func82, Tryd.ntmps82
  go_wp2
  go_loop [8] (fun iv => ∃ (k : Nat), k ≤ n ∧ iv = .int .i64 k ∧ Hid (h ∉ xs.take k)) (fun iv => n - (intOf iv).toNat)
  case atStart => exact ⟨0, Nat.zero_le _, rfl, by show ¬ _; simp⟩
  case round =>
    obtain ⟨k, hk, rfl, HS⟩ := hrel
    by_cases hlt : k < n
    · have hkl : k < xs.length := by rw [HX.out]; exact hlt
      obtain ⟨b, o, rfl, g1⟩ := Rd.get HR.out hkl
      have hno : xs.getD k 0 ≠ h → h ∉ xs.take (k + 1) := fun e => mem_take_succ hkl HS.out e
      have hyes : xs.getD k 0 = h → h ∈ xs := fun e => by rw [← e]; exact mem_getD 0 hkl
      generalize xs.getD k 0 = x at g1 hno hyes
      have h0 : (0 : Int) ≤ (k : Int) := by omega
      have hl : (k : Int) < (n : Int) := by omega
      clear hkl
      by_cases hxh : x = h
      · have HY : Hid (h ∈ xs) := hyes hxh
        have e1 : (h == x) = true := by rw [beq_iff_eq]; exact hxh.symm
        clear hno hyes hxh
        go_wp2
        go_ret
        exact ⟨(k : Int), rfl, by first | exact ⟨fun _ => HY.out, fun _ => by omega⟩ | (rw [decide_eq_true HY.out]; simp), rfl⟩
      · have HN : Hid (h ∉ xs.take (k + 1)) := hno hxh
        have e1 : (h == x) = false := by rw [beq_eq_false_iff_ne]; exact fun e => hxh e.symm
        clear hno hyes hxh
        go_wp2
        go_round
        case rel => exact ⟨k + 1, by omega, by go_num, HN⟩
        case measure => simp [intOf]; omega
    · obtain rfl : k = n := by omega
      have HN : Hid (h ∉ xs) := by have := HS.out; rwa [List.take_of_length_le (by rw [HX.out]; exact Nat.le_refl _)] at this
      go_wp2
      go_ret
      exact ⟨-1, rfl, by first | exact ⟨fun h9 => absurd h9 (by omega), fun h9 => absurd h9 HN.out⟩ | (rw [decide_eq_false HN.out]; rfl), rfl⟩

theorem containsI_c (ao : Option Addr) (n c : Nat) (xs : List Int) (h : Int) (w : World) (hx : xs.length = n) (hn : n ≤ 17592186044416) (hr : Rd w ao xs) :
    Calls Tryd.prog 57 #[.slice ao n c, .int .i64 h] w fun e w' => e = .returned (.bool (decide (h ∈ xs))) ∧ w' = w := by
  have HQ : Hid (Calls Tryd.prog 82 #[.slice ao n c, .int .i64 h] w fun e w' => ∃ r : Int, e = .returned (.int .i64 r) ∧ decide (0 ≤ r) = decide (h ∈ xs) ∧ w' = w) := indexI_c ao n c xs h w hx hn hr
  generalize decide (h ∈ xs) = hb0 at HQ ⊢
  clear hx hr
  go_enter Tryd.func57, Tryd.ntmps57
  go_wp2_with fail
  refine HQ.out.mono ?_
  rintro e w1 ⟨r, rfl, hd, hw⟩
  subst w1
  go_wp2
  go_ret
  exact ⟨ret_bool (by rw [← hd]), rfl⟩

def proofL (hs : List Int) (rs : List Rc) (h : Int) : List Rc := if h ∈ hs then gaveL h rs else []

set_option maxHeartbeats 4000000 in
theorem implProof_c (ha ra : Option Addr) (n m hc rc : Nat) (l a lo h : Int) (hs : List Int) (rs : List Rc) (w : World) (hx : hs.length = n) (hy : rs.length = m) (hn : n ≤ 6) (hm : m ≤ 1000) (he : hs = handsL n) (hr : Rd w ha hs) (hrr : RdR w ra rs) (q : Nat) (hq : (proofL hs rs h).length = q) :
    Calls Tryd.prog 18 #[.agg #[.slice ha n hc, .int .i64 l, .int .i64 a, .slice ra m rc, .int .i64 lo], .int .i64 h] w fun e w' => ∃ a' c', e = .returned (.tuple #[.slice a' q c', .bool (decide (h ∈ hs))]) ∧ OwnR w' w.heap.size (.slice a' q c') (proofL hs rs h) ∧ Below w.heap.size w w' := by
  have ba := balloc w (.cells #[.slice ha n hc, .int .i64 l, .int .i64 a, .slice ra m rc, .int .i64 lo] 28)
  have c1 := containsI_c ha n hc hs h (w.alloc (.cells #[.slice ha n hc, .int .i64 l, .int .i64 a, .slice ra m rc, .int .i64 lo] 28)) hx (by omega) (hr.later ba)
  have HR : Hid (RdR (w.alloc (.cells #[.slice ha n hc, .int .i64 l, .int .i64 a, .slice ra m rc, .int .i64 lo] 28)) ra rs) := hrr.later ba
  have HX0 : Hid (X5 (w.alloc (.cells #[.slice ha n hc, .int .i64 l, .int .i64 a, .slice ra m rc, .int .i64 lo] 28)) w.heap.size (.slice ha n hc) (.int .i64 l) (.int .i64 a) (.slice ra m rc) (.int .i64 lo)) := x5_new w _ _ _ _ _ _ _ rfl
  have HB0 : Hid (Below w.heap.size w (w.alloc (.cells #[.slice ha n hc, .int .i64 l, .int .i64 a, .slice ra m rc, .int .i64 lo] 28))) := ba
  have hmem : h ∈ hs ↔ 0 ≤ h ∧ h < n := by rw [he]; exact mem_hands
  obtain ⟨V0, hV0⟩ : ∃ V, w.alloc (.cells #[.slice ha n hc, .int .i64 l, .int .i64 a, .slice ra m rc, .int .i64 lo] 28) = V := ⟨_, rfl⟩
  rw [hV0] at c1 HR HX0 HB0
  obtain ⟨⟨t0, t1, t2, t3, t4⟩, _⟩ := id HX0.out
  by_cases hin : h ∈ hs
  case neg =>
    rw [show proofL hs rs h = [] by unfold proofL; rw [if_neg hin]] at hq ⊢
    simp at hq
    subst hq
    rw [decide_eq_false hin] at c1 ⊢
    have HC : Hid (Calls Tryd.prog 57 #[.slice ha n hc, .int .i64 h] V0 fun e w' => e = .returned (.bool false) ∧ w' = V0) := c1
    have hout : ¬ (0 ≤ h ∧ h < n) := fun g => hin (hmem.2 g)
    clear hmem hin he hx hy hr hrr ba c1
    have hg0 : ¬ (6 : Int) < (n : Int) := by omega
    by_cases h0 : h < 0
    · go_enter Tryd.func18, Tryd.ntmps18
      go_wp2
      refine bodyPost_ret (v := .tuple #[.slice none 0 0, .bool false]) (by simp [results, Tryd.results18, go_sem]; try rfl) rfl ?_
      exact ⟨none, 0, rfl, World.ownsRow_nil _ _ _ _, HB0.out⟩
    · have h1 : (n : Int) ≤ h := by omega
      go_enter Tryd.func18, Tryd.ntmps18
      go_wp2
      refine bodyPost_ret (v := .tuple #[.slice none 0 0, .bool false]) (by simp [results, Tryd.results18, go_sem]; try rfl) rfl ?_
      exact ⟨none, 0, rfl, World.ownsRow_nil _ _ _ _, HB0.out⟩
  rw [show proofL hs rs h = gaveL h rs by unfold proofL; rw [if_pos hin]] at hq ⊢
  rw [decide_eq_true hin] at c1 ⊢
  have hih := hmem.1 hin
  have HC : Hid (Calls Tryd.prog 57 #[.slice ha n hc, .int .i64 h] V0 fun e w' => e = .returned (.bool true) ∧ w' = V0) := c1
  have HY : Hid (rs.length = m) := hy
  have HQ : Hid ((gaveL h rs).length = q) := hq
  have hg0 : ¬ (6 : Int) < (n : Int) := by omega
  have hg1 : ¬ h < 0 := by omega
  have hg2 : ¬ (n : Int) ≤ h := by omega
  clear hmem hin he hx hy hr hrr ba c1 hq
  go_enter Tryd.func18, Tryd.ntmps18
  go_wp2_with fail
  refine HC.out.mono ?_
  rintro e w' ⟨rfl, hw⟩
  subst w'
  go_wp2
  clear hV0 t0 t1 t2 t3 t4
  go_loopw [6, 34] (fun v iv wr => ∃ k : Nat, k ≤ m ∧ iv = .int .i64 k ∧ Hid (OwnR wr V0.heap.size v (gaveL h (rs.take k))) ∧ Hid (Below V0.heap.size V0 wr)) (fun _ iv _ => m - (intOf iv).toNat)
  case atStart => exact ⟨0, Nat.zero_le _, rfl, World.ownsRow_nil _ _ _ _, Below.refl _ _⟩
  case round =>
    obtain ⟨k, hk, rfl, HO, HB⟩ := hrel
    by_cases hlt : k < m
    · have hkl : k < rs.length := by rw [HY.out]; exact hlt
      obtain ⟨b, o, rfl, g0, g1, g2, g3⟩ := (HR.out.later HB.out).get hkl
      have hsu := gaveL_succ (h := h) hkl
      have hlen : (gaveL h (rs.take k)).length ≤ 1000 := Nat.le_trans (gaveL_len _ _) (by rw [List.length_take]; omega)
      rw [show rs.getD k (0, 0, 0, 0) = ((rs.getD k (0, 0, 0, 0)).1, (rs.getD k (0, 0, 0, 0)).2.1, (rs.getD k (0, 0, 0, 0)).2.2.1, (rs.getD k (0, 0, 0, 0)).2.2.2) from rfl] at hsu
      generalize (rs.getD k (0, 0, 0, 0)).1 = x0 at *
      generalize (rs.getD k (0, 0, 0, 0)).2.1 = x1 at *
      generalize (rs.getD k (0, 0, 0, 0)).2.2.1 = x2 at *
      generalize (rs.getD k (0, 0, 0, 0)).2.2.2 = x3 at *
      generalize gaveL h (rs.take k) = gk at *
      have h0 : (0 : Int) ≤ (k : Int) := by omega
      have hlk : (k : Int) < (m : Int) := by omega
      have hB1 : Hid (Below V0.heap.size V0 (wr.alloc (.cells #[.int .i64 x0, .int .i64 x1, .int .i64 x2, .int .i64 x3] 43))) := HB.out.alloc HB.out.size _
      have HO1 : Hid (OwnR (wr.alloc (.cells #[.int .i64 x0, .int .i64 x1, .int .i64 x2, .int .i64 x3] 43)) V0.heap.size u6 gk) := HO.out.later (balloc wr _)
      clear hkl
      by_cases hxh : x0 = h
      · rw [if_pos hxh] at hsu
        have HSu : Hid (gaveL h (rs.take (k + 1)) = gk ++ [(x0, x1, x2, x3)]) := hsu
        have e1 : (x0 == h) = true := by simpa using hxh
        have bb1 := balloc (wr.alloc (.cells #[.int .i64 x0, .int .i64 x1, .int .i64 x2, .int .i64 x3] 43)) (.cells #[.int .i64 x0, .int .i64 x1, .int .i64 x2, .int .i64 x3] 43)
        obtain ⟨v', w', r1, hown', hgrow, hbel⟩ := appendR_run ((wr.alloc (.cells #[.int .i64 x0, .int .i64 x1, .int .i64 x2, .int .i64 x3] 43)).alloc (.cells #[.int .i64 x0, .int .i64 x1, .int .i64 x2, .int .i64 x3] 43)) V0.heap.size u6 gk [(x0, x1, x2, x3)] (some ⟨(wr.alloc (.cells #[.int .i64 x0, .int .i64 x1, .int .i64 x2, .int .i64 x3] 43)).heap.size, 0, none⟩) 1 1 (HO1.out.later bb1) (litR _ x0 x1 x2 x3) rfl (fun h => by cases h) (by omega) (by have := HB.out.size; simp; omega)
        have HO2 : Hid (OwnR w' V0.heap.size v' (gk ++ [(x0, x1, x2, x3)])) := hown'
        have HB2 : Hid (Below V0.heap.size V0 w') := (hB1.out.alloc hB1.out.size _).trans (hbel.mono (Nat.le_refl _))
        rw [show (wr.alloc (.cells #[.int .i64 x0, .int .i64 x1, .int .i64 x2, .int .i64 x3] 43)).heap.size = wr.heap.size + 1 by simp] at r1
        clear hown' hgrow hbel bb1 hsu hxh
        go_wp2_with (at_builtin; refine Lib.wpList_append_run _ rfl _ _ _ _ rfl _ _ rfl rfl _ _ (r1 _) ?_; clear r1)
        go_wp2
        go_roundw
        case rel => exact ⟨k + 1, by omega, by go_num, (by show OwnR _ _ _ _; rw [HSu.out]; exact HO2.out), HB2⟩
        case measure => simp [intOf]; omega
      · rw [if_neg hxh] at hsu
        have HSu : Hid (gaveL h (rs.take (k + 1)) = gk) := hsu
        have e1 : (x0 == h) = false := by simpa using hxh
        clear hsu hxh
        go_wp2
        go_roundw
        case rel => exact ⟨k + 1, by omega, by go_num, (by show OwnR _ _ _ _; rw [HSu.out]; exact HO1.out), hB1⟩
        case measure => simp [intOf]; omega
    · obtain rfl : k = m := by omega
      rw [List.take_of_length_le (by rw [HY.out]; exact Nat.le_refl _)] at HO
      obtain ⟨a', c', hv⟩ := HO.out.shape
      rw [HQ.out] at hv
      subst hv
      go_wp2
      refine bodyPost_ret (v := .tuple #[.slice a' q c', .bool true]) (by simp [results, Tryd.results18, go_sem]; try rfl) rfl ?_
      exact ⟨a', c', rfl, HO.out.mono (HB0.out.size), HB0.out.trans (HB.out.mono HB0.out.size)⟩

set_option maxHeartbeats 4000000 in
theorem specProof_c (ha ra : Option Addr) (n m hc rc : Nat) (l a lo h : Int) (hs : List Int) (rs : List Rc) (w : World) (hx : hs.length = n) (hy : rs.length = m) (hn : n ≤ 6) (hm : m ≤ 1000) (he : hs = handsL n) (hr : Rd w ha hs) (hrr : RdR w ra rs) (q : Nat) (hq : (proofL hs rs h).length = q) :
    Calls Tryd.prog 31 #[.agg #[.slice ha n hc, .int .i64 l, .int .i64 a, .slice ra m rc, .int .i64 lo], .int .i64 h] w fun e w' => ∃ a' c', e = .returned (.tuple #[.slice a' q c', .bool (decide (h ∈ hs))]) ∧ OwnR w' w.heap.size (.slice a' q c') (proofL hs rs h) ∧ Below w.heap.size w w' := by
  have ba := balloc w (.cells #[.slice ha n hc, .int .i64 l, .int .i64 a, .slice ra m rc, .int .i64 lo] 28)
  have c1 := l1Has_c ha n hc hs h (w.alloc (.cells #[.slice ha n hc, .int .i64 l, .int .i64 a, .slice ra m rc, .int .i64 lo] 28)) hx (by omega) (hr.later ba)
  have HR : Hid (RdR (w.alloc (.cells #[.slice ha n hc, .int .i64 l, .int .i64 a, .slice ra m rc, .int .i64 lo] 28)) ra rs) := hrr.later ba
  have HX0 : Hid (X5 (w.alloc (.cells #[.slice ha n hc, .int .i64 l, .int .i64 a, .slice ra m rc, .int .i64 lo] 28)) w.heap.size (.slice ha n hc) (.int .i64 l) (.int .i64 a) (.slice ra m rc) (.int .i64 lo)) := x5_new w _ _ _ _ _ _ _ rfl
  have HB0 : Hid (Below w.heap.size w (w.alloc (.cells #[.slice ha n hc, .int .i64 l, .int .i64 a, .slice ra m rc, .int .i64 lo] 28))) := ba
  have hmem : h ∈ hs ↔ 0 ≤ h ∧ h < n := by rw [he]; exact mem_hands
  obtain ⟨V0, hV0⟩ : ∃ V, w.alloc (.cells #[.slice ha n hc, .int .i64 l, .int .i64 a, .slice ra m rc, .int .i64 lo] 28) = V := ⟨_, rfl⟩
  rw [hV0] at c1 HR HX0 HB0
  obtain ⟨⟨t0, t1, t2, t3, t4⟩, _⟩ := id HX0.out
  by_cases hin : h ∈ hs
  case neg =>
    rw [show proofL hs rs h = [] by unfold proofL; rw [if_neg hin]] at hq ⊢
    simp at hq
    subst hq
    rw [decide_eq_false hin] at c1 ⊢
    have HC : Hid (Calls Tryd.prog 72 #[.slice ha n hc, .int .i64 h] V0 fun e w' => e = .returned (.bool false) ∧ w' = V0) := c1
    have hout : ¬ (0 ≤ h ∧ h < n) := fun g => hin (hmem.2 g)
    clear hmem hin he hx hy hr hrr ba c1
    go_enter Tryd.func31, Tryd.ntmps31
    go_wp2_with fail
    refine HC.out.mono ?_
    rintro e w' ⟨rfl, hw⟩
    subst w'
    go_wp2
    refine bodyPost_ret (v := .tuple #[.slice none 0 0, .bool false]) (by simp [results, Tryd.results31, go_sem]; try rfl) rfl ?_
    exact ⟨none, 0, rfl, World.ownsRow_nil _ _ _ _, HB0.out⟩
  rw [show proofL hs rs h = gaveL h rs by unfold proofL; rw [if_pos hin]] at hq ⊢
  rw [decide_eq_true hin] at c1 ⊢
  have hih := hmem.1 hin
  have HC : Hid (Calls Tryd.prog 72 #[.slice ha n hc, .int .i64 h] V0 fun e w' => e = .returned (.bool true) ∧ w' = V0) := c1
  have HY : Hid (rs.length = m) := hy
  have HQ : Hid ((gaveL h rs).length = q) := hq
  have hg0 : ¬ (6 : Int) < (n : Int) := by omega
  have hg1 : ¬ h < 0 := by omega
  have hg2 : ¬ (n : Int) ≤ h := by omega
  clear hmem hin he hx hy hr hrr ba c1 hq
  go_enter Tryd.func31, Tryd.ntmps31
  go_wp2_with fail
  refine HC.out.mono ?_
  rintro e w' ⟨rfl, hw⟩
  subst w'
  go_wp2
  clear hV0 t0 t1 t2 t3 t4
  go_loopw [6, 17] (fun v iv wr => ∃ k : Nat, k ≤ m ∧ iv = .int .i64 k ∧ Hid (OwnR wr V0.heap.size v (gaveL h (rs.take k))) ∧ Hid (Below V0.heap.size V0 wr)) (fun _ iv _ => m - (intOf iv).toNat)
  case atStart => exact ⟨0, Nat.zero_le _, rfl, World.ownsRow_nil _ _ _ _, Below.refl _ _⟩
  case round =>
    obtain ⟨k, hk, rfl, HO, HB⟩ := hrel
    by_cases hlt : k < m
    · have hkl : k < rs.length := by rw [HY.out]; exact hlt
      obtain ⟨b, o, rfl, g0, g1, g2, g3⟩ := (HR.out.later HB.out).get hkl
      have hsu := gaveL_succ (h := h) hkl
      have hlen : (gaveL h (rs.take k)).length ≤ 1000 := Nat.le_trans (gaveL_len _ _) (by rw [List.length_take]; omega)
      rw [show rs.getD k (0, 0, 0, 0) = ((rs.getD k (0, 0, 0, 0)).1, (rs.getD k (0, 0, 0, 0)).2.1, (rs.getD k (0, 0, 0, 0)).2.2.1, (rs.getD k (0, 0, 0, 0)).2.2.2) from rfl] at hsu
      generalize (rs.getD k (0, 0, 0, 0)).1 = x0 at *
      generalize (rs.getD k (0, 0, 0, 0)).2.1 = x1 at *
      generalize (rs.getD k (0, 0, 0, 0)).2.2.1 = x2 at *
      generalize (rs.getD k (0, 0, 0, 0)).2.2.2 = x3 at *
      generalize gaveL h (rs.take k) = gk at *
      have h0 : (0 : Int) ≤ (k : Int) := by omega
      have hlk : (k : Int) < (m : Int) := by omega
      have hB1 : Hid (Below V0.heap.size V0 (wr.alloc (.cells #[.int .i64 x0, .int .i64 x1, .int .i64 x2, .int .i64 x3] 43))) := HB.out.alloc HB.out.size _
      have HO1 : Hid (OwnR (wr.alloc (.cells #[.int .i64 x0, .int .i64 x1, .int .i64 x2, .int .i64 x3] 43)) V0.heap.size u6 gk) := HO.out.later (balloc wr _)
      clear hkl
      by_cases hxh : x0 = h
      · rw [if_pos hxh] at hsu
        have HSu : Hid (gaveL h (rs.take (k + 1)) = gk ++ [(x0, x1, x2, x3)]) := hsu
        have e1 : (x0 == h) = true := by simpa using hxh
        have bb1 := balloc (wr.alloc (.cells #[.int .i64 x0, .int .i64 x1, .int .i64 x2, .int .i64 x3] 43)) (.cells #[.int .i64 x0, .int .i64 x1, .int .i64 x2, .int .i64 x3] 43)
        obtain ⟨v', w', r1, hown', hgrow, hbel⟩ := appendR_run ((wr.alloc (.cells #[.int .i64 x0, .int .i64 x1, .int .i64 x2, .int .i64 x3] 43)).alloc (.cells #[.int .i64 x0, .int .i64 x1, .int .i64 x2, .int .i64 x3] 43)) V0.heap.size u6 gk [(x0, x1, x2, x3)] (some ⟨(wr.alloc (.cells #[.int .i64 x0, .int .i64 x1, .int .i64 x2, .int .i64 x3] 43)).heap.size, 0, none⟩) 1 1 (HO1.out.later bb1) (litR _ x0 x1 x2 x3) rfl (fun h => by cases h) (by omega) (by have := HB.out.size; simp; omega)
        have HO2 : Hid (OwnR w' V0.heap.size v' (gk ++ [(x0, x1, x2, x3)])) := hown'
        have HB2 : Hid (Below V0.heap.size V0 w') := (hB1.out.alloc hB1.out.size _).trans (hbel.mono (Nat.le_refl _))
        rw [show (wr.alloc (.cells #[.int .i64 x0, .int .i64 x1, .int .i64 x2, .int .i64 x3] 43)).heap.size = wr.heap.size + 1 by simp] at r1
        clear hown' hgrow hbel bb1 hsu hxh
        go_wp2_with (at_builtin; refine Lib.wpList_append_run _ rfl _ _ _ _ rfl _ _ rfl rfl _ _ (r1 _) ?_; clear r1)
        go_wp2
        go_roundw
        case rel => exact ⟨k + 1, by omega, by go_num, (by show OwnR _ _ _ _; rw [HSu.out]; exact HO2.out), HB2⟩
        case measure => simp [intOf]; omega
      · rw [if_neg hxh] at hsu
        have HSu : Hid (gaveL h (rs.take (k + 1)) = gk) := hsu
        have e1 : (x0 == h) = false := by simpa using hxh
        clear hsu hxh
        go_wp2
        go_roundw
        case rel => exact ⟨k + 1, by omega, by go_num, (by show OwnR _ _ _ _; rw [HSu.out]; exact HO1.out), hB1⟩
        case measure => simp [intOf]; omega
    · obtain rfl : k = m := by omega
      rw [List.take_of_length_le (by rw [HY.out]; exact Nat.le_refl _)] at HO
      obtain ⟨a', c', hv⟩ := HO.out.shape
      rw [HQ.out] at hv
      subst hv
      go_wp2
      refine bodyPost_ret (v := .tuple #[.slice a' q c', .bool true]) (by simp [results, Tryd.results31, go_sem]; try rfl) rfl ?_
      exact ⟨a', c', rfl, HO.out.mono (HB0.out.size), HB0.out.trans (HB.out.mono HB0.out.size)⟩

theorem run_neq_rc (a b c d : Int) (w : World) : (binOp .neq 43 (.agg #[.int .i64 a, .int .i64 b, .int .i64 c, .int .i64 d]) (.agg #[.int .i64 a, .int .i64 b, .int .i64 c, .int .i64 d])).run Tryd.prog w = .ok (.bool false) w := by
  have p0 : (part 3 #[.int .i64 a, .int .i64 b, .int .i64 c, .int .i64 d] 0).run Tryd.prog w = .ok (.int .i64 a) w := run_part_plain w Tryd.plainInt rfl
  have p1 : (part 3 #[.int .i64 a, .int .i64 b, .int .i64 c, .int .i64 d] 1).run Tryd.prog w = .ok (.int .i64 b) w := run_part_plain w Tryd.plainInt rfl
  have p2 : (part 3 #[.int .i64 a, .int .i64 b, .int .i64 c, .int .i64 d] 2).run Tryd.prog w = .ok (.int .i64 c) w := run_part_plain w Tryd.plainInt rfl
  have p3 : (part 3 #[.int .i64 a, .int .i64 b, .int .i64 c, .int .i64 d] 3).run Tryd.prog w = .ok (.int .i64 d) w := run_part_plain w Tryd.plainInt rfl
  rw [run_neq_struct, run_equalIn_struct w 9999 43 _ _ (by kernel_rfl) (by kernel_rfl)]
  simp only [Program.fieldsOf, Tryd.underlying43, Op.eqFields]
  simp [p0, p1, p2, p3, run_equalIn_int w 9998 3 .i64 .i64 _ _ Tryd.underlying3]

set_option maxHeartbeats 1000000 in
theorem sameReceipts_b (ao bo : Option Addr) (n c d : Nat) (xs : List Rc) (w : World) (hx : xs.length = n) (hn : n ≤ 140737488355328) (hr : RdR w ao xs) (hs : RdR w bo xs) :
    Calls Tryd.prog 15 #[.slice ao n c, .slice bo n d] w fun e w' => e = .returned (.bool true) ∧ Below w.heap.size w w' := by
  have HX : Hid (xs.length = n) := hx
  have HR : Hid (RdR w ao xs) := hr
  have HS : Hid (RdR w bo xs) := hs
  have hnn : ((n : Int) != (n : Int)) = false := by simp
  clear hx hr hs
  go_enter Tryd.func15, Tryd.ntmps15
  go_wp2
  go_loopw [13] (fun i wr => ∃ (k : Nat), k ≤ n ∧ i = .int .i64 k ∧ Hid (Below w.heap.size w wr)) (fun i _ => n - (intOf i).toNat)
  case atStart => exact ⟨0, Nat.zero_le _, rfl, Below.refl _ _⟩
  case round =>
    obtain ⟨k, hk, rfl, HB⟩ := hrel
    by_cases hlt : k < n
    · obtain ⟨b1, o1, rfl, g1, g2, g3, g4⟩ := (HR.out.later HB.out).get (k := k) (by rw [HX.out]; exact hlt)
      obtain ⟨b2, o2, rfl, g5, g6, g7, g8⟩ := (HS.out.later HB.out).get (k := k) (by rw [HX.out]; exact hlt)
      have heq := fun wx => run_neq_rc (xs.getD k (0, 0, 0, 0)).1 (xs.getD k (0, 0, 0, 0)).2.1 (xs.getD k (0, 0, 0, 0)).2.2.1 (xs.getD k (0, 0, 0, 0)).2.2.2 wx
      generalize (xs.getD k (0, 0, 0, 0)).1 = x at *
      generalize (xs.getD k (0, 0, 0, 0)).2.1 = y at *
      generalize (xs.getD k (0, 0, 0, 0)).2.2.1 = z at *
      generalize (xs.getD k (0, 0, 0, 0)).2.2.2 = u at *
      have h0 : (0 : Int) ≤ (k : Int) := by omega
      have hl : (k : Int) < (n : Int) := by omega
      go_wp2
      go_quiet (fail)
      go_wp2
      go_roundw
      case rel => exact ⟨k + 1, by omega, by go_num, below_drewN HB.out _⟩
      case measure => simp [intOf]; omega
    · go_wp2
      go_ret
      exact ⟨rfl, HB.out⟩

set_option maxHeartbeats 1000000 in
theorem numberOf_c (ao : Option Addr) (n c : Nat) (w : World) (hn : n ≤ 9223372036854775807) (h : CodeOk w w.heap.size ao n) :
    Calls Tryd.prog 27 #[.slice ao n c] w fun e w' => ∃ z : Int, e = .returned (.int .i64 z) ∧ 0 ≤ z ∧ z < 1000003 ∧ w' = w := by
  rcases h with h0 | ⟨b, off, rfl, hne, f, hf⟩
  · subst h0
    go_enter Tryd.func27, Tryd.ntmps27
    go_wp2
    refine wp_loop_rounds 1 ?_
    rw [rounds_succ]
    go_wp2
    go_ret
    exact ⟨0, rfl, by omega, by omega, rfl⟩
  · have HF : Hid (∀ j, j < n → w.cell? ⟨b, off + j, none⟩ = some (.int .u8 (f j)) ∧ 0 ≤ f j ∧ f j ≤ 255) := hf
    clear hf hne
    go_enter Tryd.func27, Tryd.ntmps27
    go_wp2
    go_loop [3, 8] (fun v i => ∃ (k : Nat) (z : Int), k ≤ n ∧ i = .int .i64 k ∧ v = .int .i64 z ∧ 0 ≤ z ∧ z < 1000003) (fun _ i => n - (intOf i).toNat)
    case atStart => exact ⟨0, 0, Nat.zero_le _, rfl, rfl, by omega, by omega⟩
    case round =>
      obtain ⟨k, z, hk, rfl, rfl, hz0, hz1⟩ := hrel
      by_cases hlt : k < n
      · obtain ⟨g1, g2, g3⟩ := HF.out k hlt
        generalize f k = y at g1 g2 g3
        have k0 : (0 : Int) ≤ (k : Int) := by omega
        have k1 : (k : Int) < (n : Int) := by omega
        have hb : 0 ≤ 31 * z + y ∧ 31 * z + y ≤ 40000000 := by omega
        obtain ⟨hb0, hb1⟩ := hb
        have m0 := Int.emod_nonneg (31 * z + y) (show (1000003 : Int) ≠ 0 by omega)
        have m1 := Int.emod_lt_of_pos (31 * z + y) (show (0 : Int) < 1000003 by omega)
        go_wp2
        go_round
        case rel => exact ⟨k + 1, (31 * z + y) % 1000003, by omega, by go_num, rfl, m0, m1⟩
        case measure => simp [intOf]; omega
      · go_wp2
        go_ret
        exact ⟨z, rfl, hz0, hz1, rfl⟩

end Go.Proofs.YtdhnolafkgkliaaDoor
