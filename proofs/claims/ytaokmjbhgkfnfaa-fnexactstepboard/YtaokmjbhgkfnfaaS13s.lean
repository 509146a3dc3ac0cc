/- Chapter 13: lists of ints appended; one put to its place. -/
import Derived.Test.YtaokmjbhgkfnfaaI13s
import Derived.Laws.OwnMore
import Derived.Deep.RegionLaw
import Derived.Deep.AppendLies
import Derived.Laws.AppendOwnNone
namespace Go.Proofs.Ytaokmjbhgkfnfaa
set_option linter.unusedVariables false
set_option maxRecDepth 1000000
set_option linter.unusedSimpArgs false
open Go.RowKit

theorem Own.nil {w : World} {base n c : Nat} {ao : Option Addr} {xs : List Int} (h : Own w base (.slice ao n c) xs) : ao = none → n = 0 ∧ c = 0 := by
  intro e
  rcases h.form with ⟨h1, _⟩ | ⟨g, cap, h1, _⟩
  · simp only [Value.slice.injEq] at h1; exact ⟨h1.2.1, h1.2.2⟩
  · simp only [Value.slice.injEq] at h1; rw [e] at h1; cases h1.1
/-- A list that is read is appended to a row of the call's own. -/
theorem appendI_run (w : World) (base : Nat) (v : Value) (xs ys : List Int) (ao : Option Addr) (m c : Nat) (hown : Own w base v xs) (hr : Rd w ao ys) (hm : ys.length = m) (hnil : ao = none → m = 0 ∧ c = 0) (hb : xs.length + m ≤ 1000000) (hbase : base ≤ w.heap.size) :
    ∃ v' w', (∀ ty, (Builtin.append_ #[23, 23] ty #[v, .slice ao m c]).run Try.prog w = .ok v' w') ∧ Own w' base v' (xs ++ ys) ∧ w.grownBy w' v.ownBlock ∧ Below base w w' := by
  obtain ⟨i0, hi, hz0, hz1, hz2⟩ := info_parts Try.infoInt
  have hge : ∀ k, v.ownBlock = some k → base ≤ k := own_block_ge hown
  cases ao with
  | none =>
    obtain ⟨rfl, rfl⟩ := hnil rfl
    obtain rfl := List.length_eq_zero_iff.1 hm
    refine ⟨v, w, fun ty => run_append_owned_none (P := Try.prog) (w := w) base 23 ty 3 i0 1 Try.underlying23 hi v xs.length (cellsI xs) hown, by rw [List.append_nil]; exact hown, World.grownBy.refl _ _, Below.refl _ _⟩
  | some a =>
    have hnews : ∀ j u, (cellsI ys)[j]? = some u → w.cell? (a.add j) = some u := fun j u hj => by
      rcases hr with rfl | ⟨b', o', he, hc⟩
      · simp [cellsI] at hj
      · simp only [Option.some.injEq] at he
        subst he
        have hjl : j < ys.length := by have := (List.getElem?_eq_some_iff.1 hj).1; simpa [cellsI] using this
        rw [getD_map_int ys j hjl] at hj
        simp only [Option.some.injEq] at hj
        subst hj
        rw [Go.WideShapes.add_plain]
        exact hc j hjl
    obtain ⟨v', w', hrun, hown', hgrow, _⟩ := run_append_own (P := Try.prog) w base 23 23 3 i0 (.int .i64 0) 1 8 Try.underlying23 hi hz0 hz1 hz2 rfl (by decide) v xs.length (cellsI xs) hown a m c (cellsI ys) (by rw [cellsI_length, hm, Nat.mul_one]) hnews (cellsI_oneCell _) (by unfold maxLen; omega) (by omega) hbase
    refine ⟨v', w', fun ty => hrun, ?_, hgrow, (Below.refl _ _).grown hgrow hbase hge⟩
    unfold Own
    rw [List.length_append, hm]
    simpa [cellsI] using hown'
theorem emptyI (w : World) : Own (w.alloc (.cells #[] 3)) w.heap.size (.slice (some ⟨w.heap.size, 0, none⟩) 0 0) [] :=
  ⟨rfl, .inr ⟨w.heap.size, 0, #[], rfl, Nat.le_refl _, (by show (w.heap.push _)[w.heap.size]? = _; simp), Nat.le_refl _, Nat.zero_le _, rfl, rfl⟩⟩
theorem litI (w : World) (x : Int) : Rd (w.alloc (.cells #[.int .i64 x] 3)) (some ⟨w.heap.size, 0, none⟩) [x] := Or.inr ⟨w.heap.size, 0, rfl, fun j hj => by
  obtain rfl : j = 0 := by simp at hj; omega
  simp⟩
theorem Own.back {w : World} {base g n c : Nat} {xs : List Int} (h : Own w base (.slice (some ⟨g, 0, none⟩) n c) xs) (k : Nat) : Rd w (some ⟨g, k, none⟩) (xs.drop k) := by
  have hl := h.rd'.1
  refine Or.inr ⟨g, k, rfl, fun j hj => ?_⟩
  rw [List.length_drop] at hj
  have := Own.cell (g := g) (cap := c) (xs := xs) (by rw [hl]; exact h) (k + j) (by omega)
  rw [this]
  congr 2
  simp [List.getD, List.getElem?_drop]
theorem Own.front {w : World} {base n c : Nat} {ao : Option Addr} {xs : List Int} (h : Own w base (.slice ao n c) xs) (k : Nat) : Rd w ao (xs.take k) := by
  rcases h.rd'.2 with rfl | ⟨b, o, rfl, hc⟩
  · exact Or.inl (by simp)
  · refine Or.inr ⟨b, o, rfl, fun j hj => ?_⟩
    rw [List.length_take] at hj
    rw [hc j (by omega)]
    congr 2
    simp [List.getD, List.getElem?_take, show j < k by omega]
theorem Own.cap {w : World} {base n c : Nat} {ao : Option Addr} {xs : List Int} (h : Own w base (.slice ao n c) xs) : n ≤ c := by
  rcases h.form with ⟨h1, _⟩ | ⟨g, cap, h1, _, _, hc, _⟩
  · simp only [Value.slice.injEq] at h1; omega
  · simp only [Value.slice.injEq] at h1; omega
theorem Own.addr {w : World} {base n c : Nat} {ao : Option Addr} {xs : List Int} (h : Own w base (.slice ao n c) xs) : (ao = none ∧ n = 0 ∧ c = 0 ∧ xs = []) ∨ ∃ g, ao = some ⟨g, 0, none⟩ ∧ base ≤ g ∧ g < w.heap.size := by
  rcases h.form with ⟨h1, h2⟩ | ⟨g, cap, h1, hb, hg, _⟩
  · simp only [Value.slice.injEq] at h1; exact Or.inl ⟨h1.1, h1.2.1, h1.2.2, h2⟩
  · simp only [Value.slice.injEq] at h1; exact Or.inr ⟨g, h1.1, hb, hg⟩


set_option maxHeartbeats 1000000 in
theorem l1Put_c (B : Nat) (ao : Option Addr) (n c : Nat) (xs : List Int) (x : Int) (w : World) (hx : xs.length = n) (hn : n ≤ 1000) (ho : Own w B (.slice ao n c) xs) (hni : x ∉ xs) :
    Calls Try.prog 91 #[.slice ao n c, .int .i64 x] w fun e w' => ∃ a' c', e = .returned (.slice a' (n + 1) c') ∧ Own w' w.heap.size (.slice a' (n + 1) c') (insL ltI x xs) ∧ Below w.heap.size w w' := by
  have HX : Hid (xs.length = n) := hx
  have HLT : Hid (∀ k, k < posL ltI x xs → ltI (xs.getD k 0) x = true) := fun k h => pos_lt x _ xs k h
  have HAT : Hid (posL ltI x xs < n → ltI (xs.getD (posL ltI x xs) 0) x = false) := fun h => pos_at x _ xs (by omega)
  have hP : posL ltI x xs ≤ n := by rw [← hx]; exact posL_le _ _
  have HI : Hid (insL ltI x xs = xs.take (posL ltI x xs) ++ x :: xs.drop (posL ltI x xs)) := rfl
  generalize insL ltI x xs = zs at HI ⊢
  generalize posL ltI x xs = P at HLT HAT hP HI
  have hcap := ho.cap
  -- what the three appends do
  have hE := emptyI w
  have hBE : Below w.heap.size w (w.alloc (.cells #[] 3)) := balloc w _
  have hSE : (w.alloc (.cells #[] 3)).heap.size = w.heap.size + 1 := by simp
  obtain ⟨E, hEe⟩ : ∃ E, w.alloc (.cells #[] 3) = E := ⟨_, rfl⟩
  rw [hEe] at hE hBE hSE
  obtain ⟨v1, w1, r1, o1, g1, b1⟩ := appendI_run E w.heap.size _ [] (xs.take P) ao P c hE ((ho.front P).later hBE) (by rw [List.length_take]; omega) (fun e => by obtain ⟨h1, h2⟩ := ho.nil e; omega) (by simp; omega) hBE.size
  rw [List.nil_append] at o1
  have hB1 : Below w.heap.size w w1 := hBE.trans b1
  have hBL : Below w.heap.size w (w1.alloc (.cells #[.int .i64 x] 3)) := hB1.alloc hB1.size _
  have oL := o1.later (balloc w1 (.cells #[.int .i64 x] 3))
  obtain ⟨L, hL⟩ : ∃ L, w1.alloc (.cells #[.int .i64 x] 3) = L := ⟨_, rfl⟩
  have rL := litI w1 x
  rw [hL] at hBL oL rL
  obtain ⟨v2, w2, r2, o2, g2, b2⟩ := appendI_run L w.heap.size v1 (xs.take P) [x] (some ⟨w1.heap.size, 0, none⟩) 1 1 oL rL rfl (fun e => by cases e) (by rw [List.length_take]; omega) hBL.size
  have hB2 : Below w.heap.size w w2 := hBL.trans b2
  have hlen2 : (xs.take P ++ [x]).length = P + 1 := by rw [List.length_append, List.length_take]; simp; omega
  have HZL : Hid (zs.length = n + 1) := by show _ = _; rw [HI.out]; simp; omega
  rcases ho.addr with ⟨rfl, rfl, rfl, rfl⟩ | ⟨g, rfl, hgB, hgw⟩
  · obtain rfl : P = 0 := by omega
    obtain ⟨v3, w3, r3, o3, g3, b3⟩ := appendI_run w2 w.heap.size v2 (([] : List Int).take 0 ++ [x]) [] none 0 0 o2 (Or.inl rfl) rfl (fun _ => ⟨rfl, rfl⟩) (by simp) hB2.size
    have HO : Hid (Own w3 w.heap.size v3 zs) := by show Own _ _ _ _; rw [HI.out]; exact o3
    have HB : Hid (Below w.heap.size w w3) := hB2.trans b3
    obtain ⟨a3, c3, hv3⟩ := HO.out.shape
    rw [HZL.out] at hv3
    subst hv3
    clear o1 o2 o3 g1 g2 g3 b1 b2 b3 oL rL hE ho hBE hSE hBL hB1 hB2 hlen2 hcap hx
    go_enter Try.func91, Try.ntmps91
    go_wp2
    refine wp_loop_rounds 1 ?_
    rw [rounds_succ]
    go_wp2_with (first | (at_builtin; refine Lib.wpList_append_run _ rfl _ _ _ _ rfl _ _ rfl rfl _ _ (r1 _) ?_; clear r1) | (at_builtin; refine Lib.wpList_append_run _ rfl _ _ _ _ rfl _ _ rfl rfl _ _ (r2 _) ?_; clear r2) | (at_builtin; refine Lib.wpList_append_run _ rfl _ _ _ _ rfl _ _ rfl rfl _ _ (r3 _) ?_; clear r3))
    go_ret
    exact ⟨a3, c3, rfl, HO.out, HB.out⟩
  · have hcell : ∀ k, k < n → w.cell? ⟨g, k, none⟩ = some (.int .i64 (xs.getD k 0)) := fun k hk => by
      have := Own.cell (g := g) (cap := c) (xs := xs) (by rw [hx]; exact ho) k (by omega)
      exact this
    have HCELL : Hid (∀ k, k < n → w.cell? ⟨g, k, none⟩ = some (.int .i64 (xs.getD k 0))) := hcell
    by_cases e : c = P
    · obtain rfl : P = n := by omega
      subst e
      obtain ⟨v3, w3, r3, o3, g3, b3⟩ := appendI_run w2 w.heap.size v2 (xs.take c ++ [x]) [] (some ⟨g, 0, none⟩) 0 0 o2 (Or.inl rfl) rfl (fun e => by cases e) (by rw [hlen2]; omega) hB2.size
      have HO : Hid (Own w3 w.heap.size v3 zs) := by show Own _ _ _ _; rw [HI.out, List.drop_of_length_le (show xs.length ≤ c by omega)]; simpa using o3
      have HB : Hid (Below w.heap.size w w3) := hB2.trans b3
      obtain ⟨a3, c3, hv3⟩ := HO.out.shape
      rw [HZL.out] at hv3
      subst hv3
      clear o1 o2 o3 g1 g2 g3 b1 b2 b3 oL rL hE ho hBE hSE hBL hB1 hB2 hlen2 hx hcell hcap
      go_enter Try.func91, Try.ntmps91
      go_wp2
      go_loop [5] (fun iv => ∃ k : Nat, k ≤ c ∧ iv = .int .i64 k) (fun iv => c - (intOf iv).toNat)
      case atStart => exact ⟨0, Nat.zero_le _, rfl⟩
      case round =>
        obtain ⟨k, hk, rfl⟩ := hrel
        by_cases hlt : k < c
        · have k0 : (0 : Int) ≤ (k : Int) := by omega
          have k1 : (k : Int) < (c : Int) := by omega
          have gk := HCELL.out k (by omega)
          have hl := HLT.out k hlt
          generalize xs.getD k 0 = y at gk hl
          have ht : y < x := by simpa [ltI] using hl
          clear hl
          go_wp2
          go_round
          case rel => exact ⟨k + 1, by omega, by go_num⟩
          case measure => simp [intOf]; omega
        · obtain rfl : k = c := by omega
          have k1 : ¬ (k : Int) < (k : Int) := by omega
          go_wp2_with (first | (at_builtin; refine Lib.wpList_append_run _ rfl _ _ _ _ rfl _ _ rfl rfl _ _ (r1 _) ?_; clear r1) | (at_builtin; refine Lib.wpList_append_run _ rfl _ _ _ _ rfl _ _ rfl rfl _ _ (r2 _) ?_; clear r2) | (at_builtin; refine Lib.wpList_append_run _ rfl _ _ _ _ rfl _ _ rfl rfl _ _ (r3 _) ?_; clear r3))
          go_ret
          exact ⟨a3, c3, rfl, HO.out, HB.out⟩

    · obtain ⟨v3, w3, r3, o3, g3, b3⟩ := appendI_run w2 w.heap.size v2 (xs.take P ++ [x]) (xs.drop P) (some ⟨g, P, none⟩) (n - P) (c - P) o2 ((ho.back P).later hB2) (by rw [List.length_drop]; omega) (fun e => by cases e) (by rw [hlen2]; omega) hB2.size
      have HO : Hid (Own w3 w.heap.size v3 zs) := by show Own _ _ _ _; rw [HI.out]; simpa using o3
      have HB : Hid (Below w.heap.size w w3) := hB2.trans b3
      obtain ⟨a3, c3, hv3⟩ := HO.out.shape
      rw [HZL.out] at hv3
      subst hv3
      clear o1 o2 o3 g1 g2 g3 b1 b2 b3 oL rL hE ho hBE hSE hBL hB1 hB2 hlen2 hx hcell
      go_enter Try.func91, Try.ntmps91
      go_wp2
      go_loop [5] (fun iv => ∃ k : Nat, k ≤ P ∧ iv = .int .i64 k) (fun iv => P - (intOf iv).toNat)
      case atStart => exact ⟨0, Nat.zero_le _, rfl⟩
      case round =>
        obtain ⟨k, hk, rfl⟩ := hrel
        by_cases hlt : k < P
        · have k0 : (0 : Int) ≤ (k : Int) := by omega
          have k1 : (k : Int) < (n : Int) := by omega
          have gk := HCELL.out k (by omega)
          have hl := HLT.out k hlt
          generalize xs.getD k 0 = y at gk hl
          have ht : y < x := by simpa [ltI] using hl
          clear hl
          go_wp2
          go_round
          case rel => exact ⟨k + 1, by omega, by go_num⟩
          case measure => simp [intOf]; omega
        · obtain rfl : k = P := by omega
          by_cases hkn : k < n
          · have k0 : (0 : Int) ≤ (k : Int) := by omega
            have k1 : (k : Int) < (n : Int) := by omega
            have gk := HCELL.out k hkn
            have hl := HAT.out hkn
            have hne : xs.getD k 0 ≠ x := fun e => hni (by rw [← e]; exact mem_getD 0 (by rw [HX.out]; exact hkn))
            generalize xs.getD k 0 = y at gk hl hne
            have ht : ¬ y < x := by simpa [ltI] using hl
            have hq : (y == x) = false := by rw [beq_eq_false_iff_ne]; exact hne
            clear hl
            go_wp2_with (first | (at_builtin; refine Lib.wpList_append_run _ rfl _ _ _ _ rfl _ _ rfl rfl _ _ (r1 _) ?_; clear r1) | (at_builtin; refine Lib.wpList_append_run _ rfl _ _ _ _ rfl _ _ rfl rfl _ _ (r2 _) ?_; clear r2) | (at_builtin; refine Lib.wpList_append_run _ rfl _ _ _ _ rfl _ _ rfl rfl _ _ (r3 _) ?_; clear r3))
            go_ret
            exact ⟨a3, c3, rfl, HO.out, HB.out⟩
          · have k1 : ¬ (k : Int) < (n : Int) := by omega
            go_wp2_with (first | (at_builtin; refine Lib.wpList_append_run _ rfl _ _ _ _ rfl _ _ rfl rfl _ _ (r1 _) ?_; clear r1) | (at_builtin; refine Lib.wpList_append_run _ rfl _ _ _ _ rfl _ _ rfl rfl _ _ (r2 _) ?_; clear r2) | (at_builtin; refine Lib.wpList_append_run _ rfl _ _ _ _ rfl _ _ rfl rfl _ _ (r3 _) ?_; clear r3))
            go_ret
            exact ⟨a3, c3, rfl, HO.out, HB.out⟩

end Go.Proofs.Ytaokmjbhgkfnfaa
