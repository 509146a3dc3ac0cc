/- Chapter 16: two rising lists joined to one. -/
import Derived.Test.YtjpegbodhpnflaaDoorJB16
import Derived.Lib.OwnBridge
namespace Go.Proofs.YtjpegbodhpnflaaDoor
set_option linter.unusedVariables false
set_option maxRecDepth 1000000
set_option linter.unusedSimpArgs false
open Go.RowKit Go.Shelf Go.Sort

theorem comp_up (d : Array Int) (hs : ∀ i j, i ≤ j → j < d.size → d[i]! ≤ d[j]!) : ∀ m, m ≤ d.size → Ris ltI (Lib.compactUpTo d m) ∧ (∀ x ∈ Lib.compactUpTo d m, ∃ j, j < m ∧ x = d[j]!) ∧ ∀ j, j < m → d[j]! ∈ Lib.compactUpTo d m
  | 0, _ => ⟨by simp [Lib.compactUpTo, Ris], fun x h => by simp [Lib.compactUpTo] at h, fun j h => absurd h (by omega)⟩
  | m + 1, hm => by
    obtain ⟨h1, h2, h3⟩ := comp_up d hs m (by omega)
    rw [Lib.compactUpTo_succ]
    by_cases hk : Lib.keeps d m = true
    · rw [if_pos hk]
      refine ⟨List.pairwise_append.2 ⟨h1, List.pairwise_singleton _ _, fun x hx y hy => ?_⟩, fun x hx => ?_, fun j hj => ?_⟩
      · simp only [List.mem_singleton] at hy
        subst hy
        obtain ⟨j, hj, rfl⟩ := h2 x hx
        simp only [ltI, decide_eq_true_eq]
        have a1 := hs j (m - 1) (by omega) (by omega)
        have a2 := hs (m - 1) m (by omega) (by omega)
        have a3 : d[m]! ≠ d[m - 1]! := by
          intro e
          have := Lib.keeps_neg (d := d) (m := m) (by omega) e
          rw [hk] at this; cases this
        omega
      · rcases List.mem_append.1 hx with hx | hx
        · obtain ⟨j, hj, e⟩ := h2 x hx
          exact ⟨j, by omega, e⟩
        · simp only [List.mem_singleton] at hx
          exact ⟨m, by omega, hx⟩
      · rw [List.mem_append]
        by_cases e : j = m
        · subst e; right; simp
        · left; exact h3 j (by omega)
    · rw [if_neg hk, List.append_nil]
      have hm0 : 0 < m := by
        rcases Nat.eq_zero_or_pos m with h | h
        · subst h
          exact absurd (Lib.keeps_lt_one d 0 (by omega)) hk
        · exact h
      have he : d[m]! = d[m - 1]! := by
        by_cases e : d[m]! = d[m - 1]!
        · exact e
        · exact absurd (Lib.keeps_pos e) hk
      refine ⟨h1, fun x hx => ?_, fun j hj => ?_⟩
      · obtain ⟨j, hj, e⟩ := h2 x hx
        exact ⟨j, by omega, e⟩
      · by_cases e : j = m
        · rw [e, he]; exact h3 (m - 1) (by omega)
        · exact h3 j (by omega)

/-- What the two lists have together, rising. -/
def joinL (xs ys : List Int) : List Int := Lib.compact ((xs ++ ys).mergeSort fun x y => decide (x ≤ y))
theorem joinL_facts (xs ys : List Int) : Ris ltI (joinL xs ys) ∧ ∀ x, x ∈ joinL xs ys ↔ x ∈ xs ∨ x ∈ ys := by
  have hp : ((xs ++ ys).mergeSort fun x y => decide (x ≤ y)).Perm (xs ++ ys) := List.mergeSort_perm _ _
  have hsrt : ((xs ++ ys).mergeSort fun x y => decide (x ≤ y)).Pairwise (fun x y => decide (x ≤ y) = true) := List.pairwise_mergeSort (fun a b c h1 h2 => by simp only [decide_eq_true_eq] at *; omega) (fun a b => by simp; omega) _
  unfold joinL Lib.compact
  generalize ((xs ++ ys).mergeSort fun x y => decide (x ≤ y)) = zs at hp hsrt
  have hz : ∀ j, j < zs.length → zs.toArray[j]! = zs.getD j 0 := fun j hj => by simp [List.getD, hj]
  have hs : ∀ i j, i ≤ j → j < zs.toArray.size → zs.toArray[i]! ≤ zs.toArray[j]! := fun i j hij hj => by
    have hj' : j < zs.length := by simpa using hj
    rw [hz i (by omega), hz j hj']
    rcases Nat.lt_or_eq_of_le hij with h | h
    · have := List.pairwise_iff_getElem.1 hsrt i j (by omega) hj' h
      simp only [decide_eq_true_eq] at this
      simpa [List.getD, hj', show i < zs.length by omega] using this
    · rw [h]; exact Int.le_refl _
  obtain ⟨h1, h2, h3⟩ := comp_up zs.toArray hs zs.length (by simp)
  refine ⟨h1, fun x => ?_⟩
  rw [← List.mem_append, ← hp.mem_iff]
  constructor
  · intro hx
    obtain ⟨j, hj, rfl⟩ := h2 x hx
    rw [hz j hj]
    exact mem_getD 0 hj
  · intro hx
    obtain ⟨j, hj, rfl⟩ := List.getElem_of_mem hx
    have := h3 j hj
    rw [hz j hj] at this
    simpa [List.getD, hj] using this
theorem comp_len (d : Array Int) : ∀ m, (Lib.compactUpTo d m).length ≤ m
  | 0 => by simp [Lib.compactUpTo]
  | m + 1 => by
    have := comp_len d m
    rw [Lib.compactUpTo_succ, List.length_append]
    split <;> simp <;> omega
theorem joinL_len (xs ys : List Int) : (joinL xs ys).length ≤ xs.length + ys.length := by
  have := comp_len (((xs ++ ys).mergeSort fun x y => decide (x ≤ y))).toArray ((xs ++ ys).mergeSort fun x y => decide (x ≤ y)).length
  unfold joinL Lib.compact
  rw [List.length_mergeSort, List.length_append] at this
  rw [List.length_mergeSort, List.length_append]
  exact this

theorem below_grow (W : World) (os : Array Obj) : Below W.heap.size W (grow W os) := ⟨rfl, rfl, rfl, by simp, fun k hk => heap_grow_old _ _ hk⟩
theorem cellsI_map (xs : List Int) : cellsI xs = xs.map (Value.int .i64) := rfl

/-- Sorted in place. -/
theorem sortR_c (v : Value) (zs : List Int) (base : Nat) (w : World) (ho : Own w base v zs) (hb : base ≤ w.heap.size) (hz : zs.length ≤ 1000) :
    Calls Tryd.prog 68 #[v] w fun e w' => e = .returned (.tuple #[]) ∧ Own w' base v (zs.mergeSort fun x y => decide (x ≤ y)) ∧ Below base w w' := by
  by_cases hv : v = .slice none 0 0
  · subst hv
    have h0 : zs = [] := by
      rcases ho.form with ⟨_, h⟩ | ⟨g, cap, h, _⟩
      · exact h
      · cases h
    subst h0
    refine (AnyM.slices_Sort_int_none Tryd.sortR none 0 w).mono ?_
    rintro e w' ⟨rfl, rfl⟩
    exact ⟨rfl, by rw [List.mergeSort_nil]; exact World.ownsRow_nil _ _ _ _, Below.refl _ _⟩
  · obtain ⟨g, cap, rfl, hbg, hlt, hn, hm, _, hH⟩ := Lib.holds_of_ownsRow (enc := Value.int .i64) (zs := zs) ho hv
    refine (AnyM.slices_Sort_int Tryd.sortR g 0 cap zs w hH hlt (by omega)).mono ?_
    rintro e w' ⟨rfl, q, os, rfl⟩
    have hl : (zs.mergeSort fun x y => decide (x ≤ y)).length = zs.length := List.length_mergeSort _
    have h1 := Lib.ownsRow_putRow (enc := Value.int .i64) (q := q) (k := zs.length) ho hl (Nat.le_refl _)
    rw [← hl, List.take_length] at h1
    have hb1 : Below base w (putRow (Value.int .i64) (Sort.ahead w q) g 0 (zs.mergeSort fun x y => decide (x ≤ y)).toArray) := Lib.below_putRow (Below.refl _ _) hbg
    rw [hl] at h1
    refine ⟨rfl, ?_, hb1.trans ((below_grow _ _).mono (Nat.le_trans hb hb1.size))⟩
    have h2 : Own (putRow (Value.int .i64) (Sort.ahead w q) g 0 (zs.mergeSort fun x y => decide (x ≤ y)).toArray) base (.slice (some ⟨g, 0, none⟩) zs.length cap) (zs.mergeSort fun x y => decide (x ≤ y)) := by
      unfold Own
      rw [hl]
      exact h1
    exact h2.later (below_grow _ _)

/-- What stands twice beside itself is told once. -/
theorem compR_c (v : Value) (zs : List Int) (base : Nat) (w : World) (ho : Own w base v zs) (hb : base ≤ w.heap.size) (hz : zs.length ≤ 1000) :
    Calls Tryd.prog 69 #[v] w fun e w' => ∃ ao c, e = .returned (.slice ao (Lib.compact zs).length c) ∧ Own w' base (.slice ao (Lib.compact zs).length c) (Lib.compact zs) ∧ Below base w w' := by
  by_cases hv : v = .slice none 0 0
  · subst hv
    have h0 : zs = [] := by
      rcases ho.form with ⟨_, h⟩ | ⟨g, cap, h, _⟩
      · exact h
      · cases h
    subst h0
    refine (AnyG.slices_Compact_int_empty Tryd.compR none 0 w).mono ?_
    rintro e w' ⟨rfl, rfl⟩
    exact ⟨none, 0, rfl, World.ownsRow_nil _ _ _ _, Below.refl _ _⟩
  · obtain ⟨g, cap, rfl, hbg, hlt, hn, hm, _, hH⟩ := Lib.holds_of_ownsRow (enc := Value.int .i64) (zs := zs) ho hv
    have hle : (Lib.compact zs).length ≤ zs.length := comp_len _ _
    refine (AnyG.slices_Compact_int Tryd.compR g 0 cap zs w hH (by omega) hn).mono ?_
    rintro e w' ⟨rfl, q, rfl⟩
    have hl : (Lib.compact zs ++ List.replicate (zs.length - (Lib.compact zs).length) 0).length = zs.length := by simp; omega
    have h1 := Lib.ownsRow_putRow (enc := Value.int .i64) (q := q) (k := (Lib.compact zs).length) ho hl hle
    rw [List.take_left'  rfl] at h1
    exact ⟨some ⟨g, 0, none⟩, cap, rfl, h1, Lib.below_putRow (Below.refl _ _) hbg⟩

theorem two_of (w : World) (aa ba : Option Addr) (ac bc : Nat) (xs ys : List Int) (hx : xs.length ≤ 16) (hy : ys.length ≤ 16) (ha : Rd w aa xs) (hb : Rd w ba ys) (ha0 : aa = none → xs.length = 0 ∧ ac = 0) (hb0 : ba = none → ys.length = 0 ∧ bc = 0) (t : TypeId) :
    Two (w.alloc (.cells #[.slice aa xs.length ac, .slice ba ys.length bc] t)) w.heap.size [xs, ys] := by
  refine ⟨rfl, fun k hk => ?_⟩
  match k, hk with
  | 0, _ => exact ⟨aa, ac, by simp, hx, ha.later (balloc w _), ha0⟩
  | 1, _ => exact ⟨ba, bc, by simp, hy, hb.later (balloc w _), hb0⟩

set_option maxHeartbeats 1000000 in
theorem joined_c (aa ba : Option Addr) (ac bc : Nat) (xs ys : List Int) (w : World) (hx : xs.length ≤ 16) (hy : ys.length ≤ 16) (ha : Rd w aa xs) (hb : Rd w ba ys) (ha0 : aa = none → xs.length = 0 ∧ ac = 0) (hb0 : ba = none → ys.length = 0 ∧ bc = 0) :
    Calls Tryd.prog 52 #[.slice aa xs.length ac, .slice ba ys.length bc] w fun e w' => ∃ ao c, e = .returned (.slice ao (joinL xs ys).length c) ∧ Own w' w.heap.size (.slice ao (joinL xs ys).length c) (joinL xs ys) ∧ Below w.heap.size w w' := by
  have q := concatR_c w.heap.size 2 [xs, ys] (w.alloc (.cells #[.slice aa xs.length ac, .slice ba ys.length bc] 64)) (two_of w aa ba ac bc xs ys hx hy ha hb ha0 hb0 64)
  have hu : upR [xs, ys] 2 = xs ++ ys := by simp [upR]
  rw [hu] at q
  have hl : (xs ++ ys).length ≤ 32 := by rw [List.length_append]; omega
  have HS : Hid (∀ v wx base, Own wx base v (xs ++ ys) → base ≤ wx.heap.size → Calls Tryd.prog 68 #[v] wx fun e w' => e = .returned (.tuple #[]) ∧ Own w' base v ((xs ++ ys).mergeSort fun x y => decide (x ≤ y)) ∧ Below base wx w') := fun v wx base h h2 => sortR_c v _ base wx h h2 (by omega)
  have HC : Hid (∀ v wx base, Own wx base v ((xs ++ ys).mergeSort fun x y => decide (x ≤ y)) → base ≤ wx.heap.size → Calls Tryd.prog 69 #[v] wx fun e w' => ∃ ao c, e = .returned (.slice ao (joinL xs ys).length c) ∧ Own w' base (.slice ao (joinL xs ys).length c) (joinL xs ys) ∧ Below base wx w') := fun v wx base h h2 => compR_c v _ base wx h h2 (by rw [List.length_mergeSort]; omega)
  generalize joinL xs ys = J at HC ⊢
  generalize (xs ++ ys).mergeSort (fun x y => decide (x ≤ y)) = M at HS HC
  generalize xs ++ ys = Z at q HS hl
  clear ha hb ha0 hb0 hx hy hu
  go_enter Tryd.func52, Tryd.ntmps52
  go_wp2_with fail
  refine q.mono ?_
  clear q
  rintro e w1 ⟨v, rfl, ho, hb1⟩
  have HO1 : Hid (Own w1 w.heap.size v Z) := ho.mono (by simp)
  have HB1 : Hid (Below w.heap.size w w1) := (balloc w _).trans (hb1.mono (by simp))
  clear ho hb1
  go_wp2_with fail
  refine (HS.out _ _ _ HO1.out HB1.out.size).mono ?_
  clear HS
  rintro e w2 ⟨rfl, ho, hb2⟩
  have HO2 : Hid (Own w2 w.heap.size v M) := ho
  have HB2 : Hid (Below w.heap.size w w2) := HB1.out.trans hb2
  clear ho hb2 HO1 HB1
  go_wp2_with fail
  refine (HC.out _ _ _ HO2.out HB2.out.size).mono ?_
  clear HC
  rintro e w3 ⟨ao, c, rfl, ho, hb3⟩
  have HO3 : Hid (Own w3 w.heap.size (.slice ao J.length c) J) := ho
  have HB3 : Hid (Below w.heap.size w w3) := HB2.out.trans hb3
  clear ho hb3 HO2 HB2
  go_wp2
  go_ret
  exact ⟨ao, c, rfl, HO3.out, HB3.out⟩

end Go.Proofs.YtjpegbodhpnflaaDoor
