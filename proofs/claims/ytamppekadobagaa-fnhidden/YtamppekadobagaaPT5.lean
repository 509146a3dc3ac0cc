/- Chapter 5: parts as both sides take and test them. -/
import Derived.Test.YtamppekadobagaaCH5
import Derived.Deep.AppendLies
namespace Go.Proofs.Ytamppekadobagaa
set_option linter.unusedVariables false
set_option linter.unusedSimpArgs false
open Go.RowKit

def fsts (l : List (Int × Int)) : List Int := l.map Prod.fst
def snds (l : List (Int × Int)) : List Int := l.map Prod.snd
theorem fsts_length (l : List (Int × Int)) : (fsts l).length = l.length := by simp [fsts]
theorem snds_length (l : List (Int × Int)) : (snds l).length = l.length := by simp [snds]
theorem fsts_take {l : List (Int × Int)} {k : Nat} (h : k < l.length) : (fsts l).take (k + 1) = (fsts l).take k ++ [(l.getD k (0, 0)).1] := by
  rw [List.take_succ_eq_append_getElem (by rw [fsts_length]; exact h)]
  simp [fsts, List.getD, h]
theorem snds_take {l : List (Int × Int)} {k : Nat} (h : k < l.length) : (snds l).take (k + 1) = (snds l).take k ++ [(l.getD k (0, 0)).2] := by
  rw [List.take_succ_eq_append_getElem (by rw [snds_length]; exact h)]
  simp [snds, List.getD, h]
theorem cell_newAt (w : World) (v : Value) (t : TypeId) (g : Nat) (hg : g = w.heap.size) : ∀ j u, [v][j]? = some u → (w.alloc (.cells #[v] t)).cell? ((⟨g, 0, none⟩ : Addr).add j) = some u := by
  subst hg; exact cell_new1 w v t

set_option maxHeartbeats 1000000 in
theorem placesIn_at (b o n c : Nat) (l : List (Int × Int)) (w : World) (hx : l.length = n) (hn : n ≤ 8796093022208)
    (hc : ∀ j, j < n → w.cell? ⟨b, o + j * 2, none⟩ = some (.int .i64 (l.getD j (0, 0)).1) ∧ w.cell? ⟨b, o + j * 2 + 1, none⟩ = some (.int .i64 (l.getD j (0, 0)).2)) :
    Calls Try.prog 66 #[.slice (some ⟨b, o, none⟩) n c] w fun e w' => ∃ a' c', e = .returned (.slice a' n c') ∧ Own w' w.heap.size (.slice a' n c') (fsts l) ∧ Below w.heap.size w w' := by
  obtain ⟨i0, hi, hz0, hz1, hz2⟩ := info_parts Try.infoInt
  have HX : Hid (l.length = n) := hx
  have HC : Hid (∀ j, j < n → w.cell? ⟨b, o + j * 2, none⟩ = some (.int .i64 (l.getD j (0, 0)).1) ∧ w.cell? ⟨b, o + j * 2 + 1, none⟩ = some (.int .i64 (l.getD j (0, 0)).2)) := hc
  clear hx hc
  go_enter Try.func66, Try.ntmps66
  go_wp2
  go_loopw [3, 8] (fun v i wr => ∃ k : Nat, k ≤ n ∧ i = .int .i64 k ∧ Hid (Own wr w.heap.size v ((fsts l).take k)) ∧ Hid (Below w.heap.size w wr)) (fun _ i _ => n - (intOf i).toNat)
  case atStart => exact ⟨0, Nat.zero_le _, rfl, World.ownsRow_nil _ _ _ _, Below.refl _ _⟩
  case round =>
    obtain ⟨k, hk, rfl, hO, hB⟩ := hrel
    by_cases hlt : k < n
    · have q1 := HC.out k hlt
      have bx := World.block_lt_of_cell? w _ q1.1
      have g1 : wr.cell? ⟨b, o + k * 2, none⟩ = some (.int .i64 (l.getD k (0, 0)).1) := by rw [hB.out.cell (p := ⟨b, o + k * 2, none⟩) bx]; exact q1.1
      have g2 : wr.cell? ⟨b, o + k * 2 + 1, none⟩ = some (.int .i64 (l.getD k (0, 0)).2) := by rw [hB.out.cell (p := ⟨b, o + k * 2 + 1, none⟩) bx]; exact q1.2
      have HT : Hid ((fsts l).take (k + 1) = (fsts l).take k ++ [(l.getD k (0, 0)).1]) := fsts_take (by rw [HX.out]; exact hlt)
      have hlen : ((fsts l).take k).length = k := by rw [List.length_take, fsts_length, HX.out]; omega
      have hob : ∀ k', u3.ownBlock = some k' → w.heap.size ≤ k' := own_block_ge hO.out
      have hown : wr.ownsRow w.heap.size 3 1 u3 k (cellsI ((fsts l).take k)) := by have h := hO.out; unfold Own at h; rw [hlen] at h; exact h
      have HL : Hid (((fsts l).take k).length = k) := hlen
      generalize (l.getD k (0, 0)).1 = x at *
      generalize (l.getD k (0, 0)).2 = y at *
      generalize (fsts l).take k = out at *
      clear hlen q1 bx
      go_wp2_with (at_builtin; refine wpList_append_own _ rfl _ _ 23 rfl w.heap.size 3 i0 (.int .i64 0) 1 8 Try.underlying23 hi hz0 hz1 hz2 rfl (by decide) _ _ _ rfl ((hown.alloc _).alloc _) ⟨wr.heap.size + 1, 0, none⟩ 1 1 [.int .i64 x] rfl rfl (cell_newAt _ _ _ _ (by simp)) (ints_oneCell .i64 [x]) (by unfold maxLen; omega) (by omega) (by have := hB.out.size; simp; omega) ?_; intro v' w2 hown' hgrow _; have HO' : Hid (Own w2 w.heap.size v' (out ++ [x])) := own_push (w := wr) (v := u3) (by simpa [HL.out] using hown'); have HB' : Hid (Below w.heap.size w w2) := ((hB.out.alloc hB.out.size _).alloc (by have := hB.out.size; simp; omega) _).grown hgrow (by have := hB.out.size; simp; omega) (fun k' e => hob k' e); clear hown' hgrow)
      go_roundw
      case rel => exact ⟨k + 1, by omega, by go_num, by show Own _ _ _ _; rw [HT.out]; exact HO'.out, HB'⟩
      case measure => simp [intOf]; omega
    · have he : (fsts l).take k = fsts l := List.take_of_length_le (by rw [fsts_length, HX.out]; omega)
      rw [he] at hO
      obtain ⟨a', c', hv⟩ := hO.out.shape
      rw [fsts_length, HX.out] at hv
      subst hv
      clear he
      go_wp2
      go_ret
      exact ⟨a', c', rfl, hO.out, hB.out⟩

theorem placesIn_nil (ao : Option Addr) (c : Nat) (w : World) :
    Calls Try.prog 66 #[.slice ao 0 c] w fun e w' => e = .returned (.slice none 0 0) ∧ w' = w := by
  go_enter Try.func66, Try.ntmps66
  go_wp2
  refine wp_loop_rounds 1 ?_
  rw [rounds_succ]
  go_wp2
  go_ret
  exact ⟨rfl, rfl⟩

theorem placesIn_c (ao : Option Addr) (n c : Nat) (l : List (Int × Int)) (w : World) (hx : l.length = n) (hn : n ≤ 8796093022208) (hr : RdP w ao l) :
    Calls Try.prog 66 #[.slice ao n c] w fun e w' => ∃ a' c', e = .returned (.slice a' n c') ∧ Own w' w.heap.size (.slice a' n c') (fsts l) ∧ Below w.heap.size w w' := by
  by_cases h0 : n = 0
  · subst h0
    have : l = [] := List.length_eq_zero_iff.1 hx
    subst this
    refine (placesIn_nil ao c w).mono ?_
    rintro e w' ⟨rfl, hw⟩
    subst w'
    exact ⟨none, 0, rfl, World.ownsRow_nil _ _ _ _, Below.refl _ _⟩
  · obtain ⟨b, o, rfl, hc⟩ := hr.at hx h0
    exact placesIn_at b o n c l w hx hn hc

theorem split_keep {wr w2 : World} {u : Value} {x y : Value} {t : TypeId} {o : Obj} (hg : ((wr.alloc (.cells #[x, y] t)).alloc o).grownBy w2 u.ownBlock) (I : ∀ k, u.ownBlock = some k → k < wr.heap.size) : w2.cell? ⟨wr.heap.size, 1, none⟩ = some y := by
  have hne : some wr.heap.size ≠ u.ownBlock := fun e => by have := I _ e.symm; omega
  rw [World.cell?_of_block (a := ⟨wr.heap.size, 1, none⟩) (hg.block wr.heap.size (by simp; omega) hne)]
  simp
theorem split_kept {wr w2 : World} {u v : Value} {base k : Nat} {cs : List Value} {o o' : Obj} (h : wr.ownsRow base 3 1 v k cs) (hg : ((wr.alloc o).alloc o').grownBy w2 u.ownBlock) (hS : u.ownBlock = none ∨ u.ownBlock ≠ v.ownBlock) : w2.ownsRow base 3 1 v k cs := by
  refine World.ownsRow.kept ((h.alloc o).alloc o') hg ?_
  rcases hS with h1 | h1
  · rw [h1]
    cases hv : v.ownBlock with
    | none => exact Or.inl rfl
    | some q => exact Or.inr (by simp)
  · exact Or.inr h1.symm
theorem split_sep {u v : Value} {g' g3 H S2 : Nat} {k c' c3 : Nat} (hS : u.ownBlock = none ∨ u.ownBlock ≠ v.ownBlock) (h1 : u.ownBlock = some g' ∨ g' = H + 1 + 1) (I : ∀ k, v.ownBlock = some k → k < H) (hlt : g' < S2) (h3 : v.ownBlock = some g3 ∨ g3 = S2 + 1) :
    (Value.slice (some ⟨g', 0, none⟩) k c').ownBlock ≠ v.ownBlock ∧ (Value.slice (some ⟨g', 0, none⟩) k c').ownBlock ≠ (Value.slice (some ⟨g3, 0, none⟩) k c3).ownBlock := by
  have a1 : some g' ≠ v.ownBlock := fun e => by
    rcases h1 with h1 | h1
    · rcases hS with h | h
      · rw [h1] at h; cases h
      · exact h (h1.trans e)
    · have := I _ e.symm; omega
  refine ⟨a1, fun e => ?_⟩
  have e' : g' = g3 := Option.some.inj e
  rcases h3 with h3 | h3
  · exact a1 (by rw [h3, e'])
  · omega

set_option maxHeartbeats 1000000 in
theorem l5Split_at (b o n c : Nat) (l : List (Int × Int)) (w : World) (hx : l.length = n) (hn : n ≤ 8796093022208)
    (hc : ∀ j, j < n → w.cell? ⟨b, o + j * 2, none⟩ = some (.int .i64 (l.getD j (0, 0)).1) ∧ w.cell? ⟨b, o + j * 2 + 1, none⟩ = some (.int .i64 (l.getD j (0, 0)).2)) :
    Calls Try.prog 71 #[.slice (some ⟨b, o, none⟩) n c] w fun e w' => ∃ a1 c1 a2 c2, e = .returned (.tuple #[.slice a1 n c1, .slice a2 n c2]) ∧ Own w' w.heap.size (.slice a1 n c1) (fsts l) ∧ Own w' w.heap.size (.slice a2 n c2) (snds l) ∧ Below w.heap.size w w' := by
  obtain ⟨i0, hi, hz0, hz1, hz2⟩ := info_parts Try.infoInt
  have HX : Hid (l.length = n) := hx
  have HC : Hid (∀ j, j < n → w.cell? ⟨b, o + j * 2, none⟩ = some (.int .i64 (l.getD j (0, 0)).1) ∧ w.cell? ⟨b, o + j * 2 + 1, none⟩ = some (.int .i64 (l.getD j (0, 0)).2)) := hc
  clear hx hc
  go_enter Try.func71, Try.ntmps71
  go_wp2
  go_loopw [4, 5, 10] (fun v u i wr => ∃ k : Nat, k ≤ n ∧ i = .int .i64 k ∧ Hid (Own wr w.heap.size v ((fsts l).take k)) ∧ Hid (Own wr w.heap.size u ((snds l).take k)) ∧ Hid (v.ownBlock = none ∨ v.ownBlock ≠ u.ownBlock) ∧ Hid (Below w.heap.size w wr)) (fun _ _ i _ => n - (intOf i).toNat)
  case atStart => exact ⟨0, Nat.zero_le _, rfl, World.ownsRow_nil _ _ _ _, World.ownsRow_nil _ _ _ _, Or.inl rfl, Below.refl _ _⟩
  case round =>
    obtain ⟨k, hk, rfl, hO, hO2, hS, hB⟩ := hrel
    by_cases hlt : k < n
    · have q1 := HC.out k hlt
      have bx := World.block_lt_of_cell? w _ q1.1
      have g1 : wr.cell? ⟨b, o + k * 2, none⟩ = some (.int .i64 (l.getD k (0, 0)).1) := by rw [hB.out.cell (p := ⟨b, o + k * 2, none⟩) bx]; exact q1.1
      have g2 : wr.cell? ⟨b, o + k * 2 + 1, none⟩ = some (.int .i64 (l.getD k (0, 0)).2) := by rw [hB.out.cell (p := ⟨b, o + k * 2 + 1, none⟩) bx]; exact q1.2
      have HT : Hid ((fsts l).take (k + 1) = (fsts l).take k ++ [(l.getD k (0, 0)).1]) := fsts_take (by rw [HX.out]; exact hlt)
      have HT2 : Hid ((snds l).take (k + 1) = (snds l).take k ++ [(l.getD k (0, 0)).2]) := snds_take (by rw [HX.out]; exact hlt)
      have hlen : ((fsts l).take k).length = k := by rw [List.length_take, fsts_length, HX.out]; omega
      have hlen2 : ((snds l).take k).length = k := by rw [List.length_take, snds_length, HX.out]; omega
      have hown : wr.ownsRow w.heap.size 3 1 u4 k (cellsI ((fsts l).take k)) := by have h := hO.out; unfold Own at h; rw [hlen] at h; exact h
      have hown2 : wr.ownsRow w.heap.size 3 1 u5 k (cellsI ((snds l).take k)) := by have h := hO2.out; unfold Own at h; rw [hlen2] at h; exact h
      have HL : Hid (((fsts l).take k).length = k) := hlen
      have HL2 : Hid (((snds l).take k).length = k) := hlen2
      have I1 : Hid (∀ k', u4.ownBlock = some k' → w.heap.size ≤ k' ∧ k' < wr.heap.size) := World.ownsRow.lt hown
      have I2 : Hid (∀ k', u5.ownBlock = some k' → w.heap.size ≤ k' ∧ k' < wr.heap.size) := World.ownsRow.lt hown2
      have HW2 : Hid (wr.ownsRow w.heap.size 3 1 u5 k (cellsI ((snds l).take k))) := hown2
      generalize (l.getD k (0, 0)).1 = x at *
      generalize (l.getD k (0, 0)).2 = y at *
      generalize (fsts l).take k = out at *
      generalize (snds l).take k = out2 at *
      clear hlen hlen2 q1 bx hown2 hO hO2
      have tok1 : True := trivial
      go_wp2_with (first
        | (at_builtin; have _t := tok1; refine wpList_append_lies _ rfl _ _ 23 rfl w.heap.size 3 i0 (.int .i64 0) 1 8 Try.underlying23 hi hz0 hz1 hz2 rfl (by decide) _ _ _ rfl ((hown.alloc _).alloc _) ⟨wr.heap.size + 1, 0, none⟩ 1 1 [.int .i64 x] rfl rfl (cell_newAt _ _ _ _ (by simp)) (ints_oneCell .i64 [x]) (by decide) (by unfold maxLen; omega) (by omega) (by have := hB.out.size; simp; omega) (wr.heap.size + 1 + 1) (by simp) ?_; intro g' c' w2 hown' hgrow hwhere hlt2; clear tok1 _t; have HO' : Hid (Own w2 w.heap.size (.slice (some ⟨g', 0, none⟩) (k + 1) c') (out ++ [x])) := own_push (w := wr) (v := u4) (by simpa [HL.out] using hown'); have HB2 : Hid (Below w.heap.size w w2) := ((hB.out.alloc hB.out.size _).alloc (by have := hB.out.size; simp; omega) _).grown hgrow (by have := hB.out.size; simp; omega) (fun k' e => (I1.out k' e).1); have gy : w2.cell? ⟨wr.heap.size, 1, none⟩ = some (.int .i64 y) := split_keep hgrow (fun k' e => (I1.out k' e).2); have HWW : Hid (w2.ownsRow w.heap.size 3 1 u5 k (cellsI out2)) := split_kept HW2.out hgrow hS.out; have HG : Hid ((u4.ownBlock = some g' ∨ g' = wr.heap.size + 1 + 1) ∧ g' < w2.heap.size ∧ wr.heap.size ≤ w2.heap.size) := ⟨hwhere, hlt2, by have := hgrow.size; simp at this; omega⟩; have hown3 := HWW.out; clear hown' hgrow hwhere hlt2 hown)
        | (at_builtin; refine wpList_append_lies _ rfl _ _ 23 rfl w.heap.size 3 i0 (.int .i64 0) 1 8 Try.underlying23 hi hz0 hz1 hz2 rfl (by decide) _ _ _ rfl (hown3.alloc _) ⟨w2.heap.size, 0, none⟩ 1 1 [.int .i64 y] rfl rfl (cell_new1 _ _ _) (ints_oneCell .i64 [y]) (by decide) (by unfold maxLen; omega) (by omega) (by have := HB2.out.size; simp; omega) (w2.heap.size + 1) (by simp) ?_; intro g3 c3 w3 hown' hgrow hwhere hlt3; have HO3 : Hid (Own w3 w.heap.size (.slice (some ⟨g3, 0, none⟩) (k + 1) c3) (out2 ++ [y])) := own_push (w := wr) (v := u4) (by simpa [HL2.out] using hown'); have HB3 : Hid (Below w.heap.size w w3) := (HB2.out.alloc HB2.out.size _).grown hgrow (by have := HB2.out.size; simp; omega) (fun k' e => (I2.out k' e).1); have HS2 := split_sep (k := k + 1) (c' := c') (c3 := c3) hS.out HG.out.1 (fun k' e => (I2.out k' e).2) HG.out.2.1 hwhere; have HO4 : Hid (Own w3 w.heap.size (.slice (some ⟨g', 0, none⟩) (k + 1) c') (out ++ [x])) := Own.kept (HO'.out.later (balloc _ _)) hgrow (Or.inr HS2.1); have HS3 : Hid ((Value.slice (some ⟨g', 0, none⟩) (k + 1) c').ownBlock = none ∨ (Value.slice (some ⟨g', 0, none⟩) (k + 1) c').ownBlock ≠ (Value.slice (some ⟨g3, 0, none⟩) (k + 1) c3).ownBlock) := Or.inr HS2.2; clear hown' hgrow hwhere hlt3 HS2 hown3))
      go_roundw
      case rel => exact ⟨k + 1, by omega, by go_num, by show Own _ _ _ _; rw [HT.out]; exact HO4.out, by show Own _ _ _ _; rw [HT2.out]; exact HO3.out, HS3, HB3⟩
      case measure => simp [intOf]; omega
    · have he : (fsts l).take k = fsts l := List.take_of_length_le (by rw [fsts_length, HX.out]; omega)
      have he2 : (snds l).take k = snds l := List.take_of_length_le (by rw [snds_length, HX.out]; omega)
      rw [he] at hO
      rw [he2] at hO2
      obtain ⟨a', c', hv⟩ := hO.out.shape
      rw [fsts_length, HX.out] at hv
      subst hv
      obtain ⟨a2, c2, hv2⟩ := hO2.out.shape
      rw [snds_length, HX.out] at hv2
      subst hv2
      clear he he2
      go_wp2
      refine bodyPost_ret (v := .tuple #[.slice a' n c', .slice a2 n c2]) (by simp [results, Try.results71, go_sem]; try rfl) rfl ?_
      exact ⟨a', c', a2, c2, rfl, hO.out, hO2.out, hB.out⟩

theorem l5Split_nil (ao : Option Addr) (c : Nat) (w : World) :
    Calls Try.prog 71 #[.slice ao 0 c] w fun e w' => e = .returned (.tuple #[.slice none 0 0, .slice none 0 0]) ∧ w' = w := by
  go_enter Try.func71, Try.ntmps71
  go_wp2
  refine wp_loop_rounds 1 ?_
  rw [rounds_succ]
  go_wp2
  refine bodyPost_ret (v := .tuple #[.slice none 0 0, .slice none 0 0]) (by simp [results, Try.results71, go_sem]; try rfl) rfl ?_
  exact ⟨rfl, rfl⟩

theorem l5Split_c (ao : Option Addr) (n c : Nat) (l : List (Int × Int)) (w : World) (hx : l.length = n) (hn : n ≤ 8796093022208) (hr : RdP w ao l) :
    Calls Try.prog 71 #[.slice ao n c] w fun e w' => ∃ a1 c1 a2 c2, e = .returned (.tuple #[.slice a1 n c1, .slice a2 n c2]) ∧ Own w' w.heap.size (.slice a1 n c1) (fsts l) ∧ Own w' w.heap.size (.slice a2 n c2) (snds l) ∧ Below w.heap.size w w' := by
  by_cases h0 : n = 0
  · subst h0
    have : l = [] := List.length_eq_zero_iff.1 hx
    subst this
    refine (l5Split_nil ao c w).mono ?_
    rintro e w' ⟨rfl, hw⟩
    subst w'
    exact ⟨none, 0, none, 0, rfl, World.ownsRow_nil _ _ _ _, World.ownsRow_nil _ _ _ _, Below.refl _ _⟩
  · obtain ⟨b, o, rfl, hc⟩ := hr.at hx h0
    exact l5Split_at b o n c l w hx hn hc

end Go.Proofs.Ytamppekadobagaa
