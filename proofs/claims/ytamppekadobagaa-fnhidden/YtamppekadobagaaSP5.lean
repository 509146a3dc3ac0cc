/- Chapter 5: SplitSecret, both sides. -/
import Derived.Test.YtamppekadobagaaVA5
namespace Go.Proofs.Ytamppekadobagaa
set_option linter.unusedVariables false
set_option linter.unusedSimpArgs false
open Go.RowKit

/-- The parts of a polynomial, from 1 on. -/
def splitL (ps : List F) (k : Nat) : List (Int × Int) := (List.range k).map fun j : Nat => ((j : Int) + 1, vI (evF ps (toF ((j : Int) + 1))))
theorem splitL_length (ps : List F) (k : Nat) : (splitL ps k).length = k := by simp [splitL]
theorem splitL_succ (ps : List F) (k : Nat) : splitL ps (k + 1) = splitL ps k ++ [((k : Int) + 1, vI (evF ps (toF ((k : Int) + 1))))] := by
  simp [splitL, List.range_succ]
def splitF (xs : List Int) (m : Int) : List (Int × Int) × Bool := if polyB xs = true ∧ (1 ≤ m ∧ m ≤ 8) then (splitL (xs.map toF) m.toNat, true) else ([], false)
theorem splitF_short {xs : List Int} {m : Int} {zs : List (Int × Int)} {fb : Bool} (h : splitF xs m = (zs, fb)) : zs.length ≤ 8 := by
  unfold splitF at h
  split at h
  · rename_i hc
    simp only [Prod.mk.injEq] at h
    rw [← h.1, splitL_length]; omega
  · simp only [Prod.mk.injEq] at h
    rw [← h.1]; simp

theorem cell_new2 (w : World) (u v : Value) (t : TypeId) : ∀ j x, [u, v][j]? = some x → (w.alloc (.cells #[u, v] t)).cell? ((⟨w.heap.size, 0, none⟩ : Addr).add j) = some x := by
  intro j x hj
  match j with
  | 0 => simp at hj; subst hj; rw [Go.WideShapes.add_plain]; simp
  | 1 => simp at hj; subst hj; rw [Go.WideShapes.add_plain]; simp
  | j + 2 => simp at hj

set_option maxHeartbeats 1000000 in
theorem specSplit_yes (ao : Option Addr) (n c m : Nat) (ps : List F) (w : World) (hx : ps.length = n) (h1 : 1 ≤ n) (h8 : n ≤ 8) (hm1 : 1 ≤ m) (hm8 : m ≤ 8) (hr : Rd w ao (vIs ps)) :
    Calls Try.prog 15 #[.slice ao n c, .int .i64 m] w fun e w' => ∃ a' c', e = .returned (.tuple #[.slice a' m c', .bool true]) ∧ OwnP w' w.heap.size (.slice a' m c') (splitL ps m) ∧ Below w.heap.size w w' := by
  obtain ⟨i0, hi, hz0, hz1, hz2⟩ := info_parts Try.infoPart
  have hp : ∀ wx, wx = w → _ := fun wx (h : wx = w) => l5Poly_c ao n c (vIs ps) wx (by rw [vIs_length]; exact hx) (by omega) (by rw [h]; exact hr)
  have e1 : polyB (vIs ps) = true := by unfold polyB; rw [vIs_length, hx, decide_eq_true ⟨h1, h8⟩, vIs_allIn]; rfl
  rw [e1] at hp
  have hin := l1In_c m 1 8
  rw [decide_eq_true (by omega)] at hin
  have HR : Hid (Rd w ao (vIs ps)) := hr
  have HX : Hid (ps.length = n) := hx
  clear hx hr e1
  go_enter Try.func15, Try.ntmps15
  go_wp2_with fail
  refine (hp _ rfl).mono ?_
  clear hp
  rintro e w' ⟨rfl, hw⟩
  subst w'
  go_wp2_with fail
  refine (hin _).mono ?_
  clear hin
  rintro e w' ⟨rfl, hw⟩
  subst w'
  go_wp2
  go_loopw [6, 7] (fun v i wr => ∃ k : Nat, k ≤ m ∧ i = .int .i64 ((k : Int) + 1) ∧ Hid (OwnP wr w.heap.size v (splitL ps k)) ∧ Hid (Below w.heap.size w wr)) (fun _ i _ => m + 1 - (intOf i).toNat)
  case atStart => exact ⟨0, Nat.zero_le _, rfl, World.ownsRow_nil _ _ _ _, Below.refl _ _⟩
  case round =>
    obtain ⟨k, hk, rfl, hO, hB⟩ := hrel
    by_cases hlt : k < m
    · have hob : ∀ k', u6.ownBlock = some k' → w.heap.size ≤ k' := own_block_geP hO.out
      have hlen : (splitL ps k).length = k := splitL_length ps k
      have hown : wr.ownsRow w.heap.size 46 2 u6 k (cellsP (splitL ps k)) := by have h := hO.out; unfold OwnP at h; rw [hlen] at h; exact h
      have HT : Hid (splitL ps (k + 1) = splitL ps k ++ [((k : Int) + 1, vI (evF ps (toF ((k : Int) + 1))))]) := splitL_succ ps k
      have hv := l5Value_c ao n c ps (toF ((k : Int) + 1)) wr HX.out h1 h8 (HR.out.later hB.out)
      rw [vI_toF' (n := (k : Int) + 1) (by omega) (by omega)] at hv
      have HL : Hid ((splitL ps k).length = k) := hlen
      generalize splitL ps k = out at *
      generalize vI (evF ps (toF ((k : Int) + 1))) = y at *
      have hle : (k : Int) + 1 ≤ m := by omega
      clear hlen
      go_wp2_with fail
      refine hv.mono ?_
      clear hv
      rintro e w' ⟨rfl, hw⟩
      subst w'
      go_wp2_with (at_builtin; refine wpList_append_own _ rfl _ _ 26 rfl w.heap.size 46 i0 (.agg #[.int .i64 0, .int .i64 0]) 2 16 Try.underlying26 hi hz0 hz1 hz2 rfl (by decide) _ _ _ rfl (hown.alloc _) ⟨wr.heap.size, 0, none⟩ 1 1 [.int .i64 ((k : Int) + 1), .int .i64 y] rfl rfl (cell_new2 _ _ _ _) (cellsP_one [((k : Int) + 1, y)]) (by unfold maxLen; omega) (by omega) (by have := hB.out.size; simp; omega) ?_; intro v' w2 hown' hgrow _; have HO' : Hid (OwnP w2 w.heap.size v' (out ++ [((k : Int) + 1, y)])) := own_pushP (by rw [HL.out]; exact hown'); have HB' : Hid (Below w.heap.size w w2) := (hB.out.alloc hB.out.size _).grown hgrow (by have := hB.out.size; simp; omega) (fun k' e => hob k' e); clear hown' hgrow)
      go_roundw
      case rel => exact ⟨k + 1, by omega, by go_num, by show OwnP _ _ _ _; rw [HT.out]; exact HO'.out, HB'⟩
      case measure => simp [intOf]; omega
    · obtain rfl : k = m := by omega
      have hgt : ¬ (k : Int) + 1 ≤ k := by omega
      obtain ⟨a', c', hv⟩ := hO.out.shape
      rw [splitL_length] at hv
      subst hv
      go_wp2
      refine bodyPost_ret (v := .tuple #[.slice a' k c', .bool true]) (by simp [results, Try.results15, go_sem]; try rfl) rfl ?_
      exact ⟨a', c', rfl, hO.out, hB.out⟩

set_option maxHeartbeats 1000000 in
theorem implSplit_yes (ao : Option Addr) (n c m : Nat) (ps : List F) (w : World) (hx : ps.length = n) (h1 : 1 ≤ n) (h8 : n ≤ 8) (hm1 : 1 ≤ m) (hm8 : m ≤ 8) (hr : Rd w ao (vIs ps)) :
    Calls Try.prog 14 #[.slice ao n c, .int .i64 m] w fun e w' => ∃ a' c', e = .returned (.tuple #[.slice a' m c', .bool true]) ∧ OwnP w' w.heap.size (.slice a' m c') (splitL ps m) ∧ Below w.heap.size w w' := by
  obtain ⟨i0, hi, hz0, hz1, hz2⟩ := info_parts Try.infoPart
  have hp : ∀ wx, wx = w → _ := fun wx (h : wx = w) => isPoly_c ao n c (vIs ps) wx (by rw [vIs_length]; exact hx) (by omega) (by rw [h]; exact hr)
  have e1 : polyB (vIs ps) = true := by unfold polyB; rw [vIs_length, hx, decide_eq_true ⟨h1, h8⟩, vIs_allIn]; rfl
  rw [e1] at hp
  have HR : Hid (Rd w ao (vIs ps)) := hr
  have HX : Hid (ps.length = n) := hx
  have hn1 : ¬ (m : Int) < 1 := by omega
  have hn8 : ¬ (8 : Int) < m := by omega
  clear hx hr e1
  go_enter Try.func14, Try.ntmps14
  go_wp2_with fail
  refine (hp _ rfl).mono ?_
  clear hp
  rintro e w' ⟨rfl, hw⟩
  subst w'
  go_wp2_with fail
  refine (curveOf_c ao n c _).mono ?_
  rintro e w' ⟨rfl, hw⟩
  subst w'
  obtain ⟨W, hW⟩ : ∃ W, w.alloc (.cells #[.slice ao n c] 23) = W := ⟨_, rfl⟩
  have HBW : Hid (Below w.heap.size w W) := by rw [← hW]; exact balloc w _
  have HCW : Hid (W.cell? ⟨w.heap.size, 0, none⟩ = some (.slice ao n c)) := by rw [← hW]; show _ = _; simp
  have hWs : w.heap.size + 1 = W.heap.size := by rw [← hW]; simp
  go_wp2
  go_loopw [7, 8] (fun v i wr => ∃ k : Nat, k ≤ m ∧ i = .int .i64 ((k : Int) + 1) ∧ Hid (OwnP wr W.heap.size v (splitL ps k)) ∧ Hid (Below W.heap.size W wr)) (fun _ i _ => m + 1 - (intOf i).toNat)
  case atStart => exact ⟨0, Nat.zero_le _, rfl, World.ownsRow_nil _ _ _ _, by show Below _ _ _; rw [← hW]; exact Below.refl _ _⟩
  case round =>
    clear hW
    obtain ⟨k, hk, rfl, hO, hB⟩ := hrel
    by_cases hlt : k < m
    · have hcv := curveOf1_c w.heap.size ao n c ps (toF ((k : Int) + 1)) wr HX.out h8 (cell_keep (S := 0) hB.out HCW.out) ((HR.out.later HBW.out).later hB.out)
      rw [vI_toF' (n := (k : Int) + 1) (by omega) (by omega)] at hcv
      have HT : Hid (splitL ps (k + 1) = splitL ps k ++ [((k : Int) + 1, vI (evF ps (toF ((k : Int) + 1))))]) := splitL_succ ps k
      generalize vI (evF ps (toF ((k : Int) + 1))) = y at *
      have hle : (k : Int) + 1 ≤ m := by omega
      go_wp2_with fail
      refine hcv.mono ?_
      clear hcv
      rintro e w1 ⟨rfl, hb1⟩
      have HB1 : Hid (Below W.heap.size W w1) := hB.out.trans (hb1.mono hB.out.size)
      have hO1 : OwnP w1 W.heap.size u7 (splitL ps k) := hO.out.later hb1
      have hob : ∀ k', u7.ownBlock = some k' → W.heap.size ≤ k' := own_block_geP hO1
      have hlen : (splitL ps k).length = k := splitL_length ps k
      have hown : w1.ownsRow W.heap.size 46 2 u7 k (cellsP (splitL ps k)) := by have h := hO1; unfold OwnP at h; rw [hlen] at h; exact h
      have HL : Hid ((splitL ps k).length = k) := hlen
      clear hb1 hO1 hlen hO hB
      generalize splitL ps k = out at *
      go_wp2_with (at_builtin; refine wpList_append_own _ rfl _ _ 26 rfl W.heap.size 46 i0 (.agg #[.int .i64 0, .int .i64 0]) 2 16 Try.underlying26 hi hz0 hz1 hz2 rfl (by decide) _ _ _ rfl (hown.alloc _) ⟨w1.heap.size, 0, none⟩ 1 1 [.int .i64 ((k : Int) + 1), .int .i64 y] rfl rfl (cell_new2 _ _ _ _) (cellsP_one [((k : Int) + 1, y)]) (by unfold maxLen; omega) (by omega) (by have := HB1.out.size; simp; omega) ?_; intro v' w2 hown' hgrow _; have HO' : Hid (OwnP w2 W.heap.size v' (out ++ [((k : Int) + 1, y)])) := own_pushP (by rw [HL.out]; exact hown'); have HB' : Hid (Below W.heap.size W w2) := (HB1.out.alloc HB1.out.size _).grown hgrow (by have := HB1.out.size; simp; omega) (fun k' e => hob k' e); clear hown' hgrow)
      go_roundw
      case rel => exact ⟨k + 1, by omega, by go_num, by show OwnP _ _ _ _; rw [HT.out]; exact HO'.out, HB'⟩
      case measure => simp [intOf]; omega
    · obtain rfl : k = m := by omega
      have hgt : ¬ (k : Int) + 1 ≤ k := by omega
      obtain ⟨a', c', hv⟩ := hO.out.shape
      rw [splitL_length] at hv
      subst hv
      go_wp2
      refine bodyPost_ret (v := .tuple #[.slice a' k c', .bool true]) (by simp [results, Try.results14, go_sem]; try rfl) rfl ?_
      exact ⟨a', c', rfl, hO.out.mono (by omega), HBW.out.trans (hB.out.mono (by omega))⟩

theorem specSplit_no (ao : Option Addr) (n c : Nat) (xs : List Int) (m : Int) (w : World) (hx : xs.length = n) (hn : n ≤ 17592186044416) (hr : Rd w ao xs) (h : ¬ (polyB xs = true ∧ (1 ≤ m ∧ m ≤ 8))) :
    Calls Try.prog 15 #[.slice ao n c, .int .i64 m] w fun e w' => e = .returned (.tuple #[.slice none 0 0, .bool false]) ∧ w' = w := by
  have hp := fun wx (h : wx = w) => l5Poly_c ao n c xs wx hx hn (by rw [h]; exact hr)
  by_cases h1 : polyB xs = true
  · have hin := l1In_c m 1 8
    rw [decide_eq_false (fun e => h ⟨h1, e⟩)] at hin
    rw [h1] at hp
    clear h h1
    go_enter Try.func15, Try.ntmps15
    go_wp2_with fail
    refine (hp _ rfl).mono ?_
    clear hp
    rintro e w' ⟨rfl, hw⟩
    subst w'
    go_wp2_with fail
    refine (hin _).mono ?_
    clear hin
    rintro e w' ⟨rfl, hw⟩
    subst w'
    go_wp2
    refine bodyPost_ret (v := .tuple #[.slice none 0 0, .bool false]) (by simp [results, Try.results15, go_sem]; try rfl) rfl ?_
    exact ⟨rfl, rfl⟩
  · have h1' : polyB xs = false := by simpa using h1
    rw [h1'] at hp
    clear h h1 h1'
    go_enter Try.func15, Try.ntmps15
    go_wp2_with fail
    refine (hp _ rfl).mono ?_
    clear hp
    rintro e w' ⟨rfl, hw⟩
    subst w'
    go_wp2
    refine bodyPost_ret (v := .tuple #[.slice none 0 0, .bool false]) (by simp [results, Try.results15, go_sem]; try rfl) rfl ?_
    exact ⟨rfl, rfl⟩

theorem implSplit_no (ao : Option Addr) (n c : Nat) (xs : List Int) (m : Int) (w : World) (hx : xs.length = n) (hn : n ≤ 17592186044416) (hr : Rd w ao xs) (h : ¬ (polyB xs = true ∧ (1 ≤ m ∧ m ≤ 8))) :
    Calls Try.prog 14 #[.slice ao n c, .int .i64 m] w fun e w' => e = .returned (.tuple #[.slice none 0 0, .bool false]) ∧ w' = w := by
  have hp := fun wx (h : wx = w) => isPoly_c ao n c xs wx hx hn (by rw [h]; exact hr)
  by_cases h1 : polyB xs = true
  · rw [h1] at hp
    by_cases h2 : m < 1
    · clear h h1
      go_enter Try.func14, Try.ntmps14
      go_wp2_with fail
      refine (hp _ rfl).mono ?_
      clear hp
      rintro e w' ⟨rfl, hw⟩
      subst w'
      go_wp2
      refine bodyPost_ret (v := .tuple #[.slice none 0 0, .bool false]) (by simp [results, Try.results14, go_sem]; try rfl) rfl ?_
      exact ⟨rfl, rfl⟩
    · have h3 : 8 < m := by
        refine Classical.byContradiction fun h3 => h ⟨h1, by omega, by omega⟩
      clear h h1
      go_enter Try.func14, Try.ntmps14
      go_wp2_with fail
      refine (hp _ rfl).mono ?_
      clear hp
      rintro e w' ⟨rfl, hw⟩
      subst w'
      go_wp2
      refine bodyPost_ret (v := .tuple #[.slice none 0 0, .bool false]) (by simp [results, Try.results14, go_sem]; try rfl) rfl ?_
      exact ⟨rfl, rfl⟩
  · have h1' : polyB xs = false := by simpa using h1
    rw [h1'] at hp
    clear h h1 h1'
    go_enter Try.func14, Try.ntmps14
    go_wp2_with fail
    refine (hp _ rfl).mono ?_
    clear hp
    rintro e w' ⟨rfl, hw⟩
    subst w'
    go_wp2
    refine bodyPost_ret (v := .tuple #[.slice none 0 0, .bool false]) (by simp [results, Try.results14, go_sem]; try rfl) rfl ?_
    exact ⟨rfl, rfl⟩

theorem specSplit_c (ao : Option Addr) (n c : Nat) (xs : List Int) (m : Int) (w : World) (hx : xs.length = n) (hn : n ≤ 17592186044416) (hr : Rd w ao xs) (zs : List (Int × Int)) (fb : Bool) (p : Nat) (hF : splitF xs m = (zs, fb)) (hp : zs.length = p) :
    Calls Try.prog 15 #[.slice ao n c, .int .i64 m] w fun e w' => ∃ a' c', e = .returned (.tuple #[.slice a' p c', .bool fb]) ∧ OwnP w' w.heap.size (.slice a' p c') zs ∧ Below w.heap.size w w' := by
  unfold splitF at hF
  by_cases h : polyB xs = true ∧ (1 ≤ m ∧ m ≤ 8)
  · rw [if_pos h] at hF
    simp only [Prod.mk.injEq] at hF
    obtain ⟨rfl, rfl⟩ := hF
    obtain ⟨ps, rfl, hl1, hl8⟩ := polyB_parts h.1
    obtain ⟨k, rfl⟩ : ∃ k : Nat, m = (k : Int) := ⟨m.toNat, by omega⟩
    rw [splitL_length] at hp
    simp only [Int.toNat_natCast] at hp
    subst hp
    rw [vIs_length] at hx
    rw [vIs_toF]
    exact specSplit_yes ao n c k ps w hx (by omega) (by omega) (by omega) (by omega) hr
  · rw [if_neg h] at hF
    simp only [Prod.mk.injEq] at hF
    obtain ⟨rfl, rfl⟩ := hF
    simp at hp
    subst hp
    refine (specSplit_no ao n c xs m w hx hn hr h).mono ?_
    rintro e w' ⟨rfl, hw⟩
    subst w'
    exact ⟨none, 0, rfl, World.ownsRow_nil _ _ _ _, Below.refl _ _⟩

theorem implSplit_c (ao : Option Addr) (n c : Nat) (xs : List Int) (m : Int) (w : World) (hx : xs.length = n) (hn : n ≤ 17592186044416) (hr : Rd w ao xs) (zs : List (Int × Int)) (fb : Bool) (p : Nat) (hF : splitF xs m = (zs, fb)) (hp : zs.length = p) :
    Calls Try.prog 14 #[.slice ao n c, .int .i64 m] w fun e w' => ∃ a' c', e = .returned (.tuple #[.slice a' p c', .bool fb]) ∧ OwnP w' w.heap.size (.slice a' p c') zs ∧ Below w.heap.size w w' := by
  unfold splitF at hF
  by_cases h : polyB xs = true ∧ (1 ≤ m ∧ m ≤ 8)
  · rw [if_pos h] at hF
    simp only [Prod.mk.injEq] at hF
    obtain ⟨rfl, rfl⟩ := hF
    obtain ⟨ps, rfl, hl1, hl8⟩ := polyB_parts h.1
    obtain ⟨k, rfl⟩ : ∃ k : Nat, m = (k : Int) := ⟨m.toNat, by omega⟩
    rw [splitL_length] at hp
    simp only [Int.toNat_natCast] at hp
    subst hp
    rw [vIs_length] at hx
    rw [vIs_toF]
    exact implSplit_yes ao n c k ps w hx (by omega) (by omega) (by omega) (by omega) hr
  · rw [if_neg h] at hF
    simp only [Prod.mk.injEq] at hF
    obtain ⟨rfl, rfl⟩ := hF
    simp at hp
    subst hp
    refine (implSplit_no ao n c xs m w hx hn hr h).mono ?_
    rintro e w' ⟨rfl, hw⟩
    subst w'
    exact ⟨none, 0, rfl, World.ownsRow_nil _ _ _ _, Below.refl _ _⟩

end Go.Proofs.Ytamppekadobagaa
