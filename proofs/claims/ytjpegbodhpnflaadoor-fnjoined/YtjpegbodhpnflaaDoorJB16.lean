/- Chapter 16: slices.Concat of two rising lists. -/
import Derived.Test.YtjpegbodhpnflaaDoorJA16
import Derived.Lib.AppendZerosOnto
import Derived.Lib.SliceRun
import Derived.Laws.AppendOwnNone
import Derived.Laws.OwnMore
import Derived.Lib.AppendZeros
namespace Go.Proofs.YtjpegbodhpnflaaDoor
set_option linter.unusedVariables false
set_option maxRecDepth 1000000
set_option linter.unusedSimpArgs false
open Go.RowKit

theorem appendR_run (w : World) (base : Nat) (v : Value) (xs ys : List Int) (ao : Option Addr) (m c : Nat) (hown : Own w base v xs) (hr : Rd w ao ys) (hm : ys.length = m) (hnil : ao = none → m = 0 ∧ c = 0) (hb : xs.length + m ≤ 1000000) (hbase : base ≤ w.heap.size) :
    ∃ v' w', (∀ ty, (Builtin.append_ #[64, 64] ty #[v, .slice ao m c]).run Tryd.prog w = .ok v' w') ∧ Own w' base v' (xs ++ ys) ∧ w.grownBy w' v.ownBlock ∧ Below base w w' := by
  obtain ⟨i0, hi, hz0, hz1, hz2⟩ := info_parts Tryd.infoInt
  have hge : ∀ k, v.ownBlock = some k → base ≤ k := own_block_ge hown
  cases ao with
  | none =>
    obtain ⟨rfl, rfl⟩ := hnil rfl
    obtain rfl := List.length_eq_zero_iff.1 hm
    refine ⟨v, w, fun ty => run_append_owned_none (P := Tryd.prog) (w := w) base 64 ty 3 i0 1 Tryd.underlying64 hi v xs.length (cellsI xs) hown, by rw [List.append_nil]; exact hown, World.grownBy.refl _ _, Below.refl _ _⟩
  | some a =>
    have hnews : ∀ j u, (cellsI ys)[j]? = some u → w.cell? (a.add j) = some u := fun j u hj => by
      rcases hr with rfl | ⟨b', o', he, hc⟩
      · simp [cellsI] at hj
      · simp only [Option.some.injEq] at he
        subst he
        have hjl : j < ys.length := by have := (List.getElem?_eq_some_iff.1 hj).1; simpa [cellsI] using this
        rw [getD_map_int ys j hjl] at hj
        simp only [Option.some.injEq] at hj
        subst hj
        rw [Go.WideShapes.add_plain]
        exact hc j hjl
    obtain ⟨v', w', hrun, hown', hgrow, _⟩ := run_append_own (P := Tryd.prog) w base 64 64 3 i0 (.int .i64 0) 1 8 Tryd.underlying64 hi hz0 hz1 hz2 rfl (by decide) v xs.length (cellsI xs) hown a m c (cellsI ys) (by rw [cellsI_length, hm, Nat.mul_one]) hnews (cellsI_oneCell _) (by unfold maxLen; omega) (by omega) hbase
    refine ⟨v', w', fun ty => hrun, ?_, hgrow, (Below.refl _ _).grown hgrow hbase hge⟩
    unfold Own
    rw [List.length_append, hm]
    simpa [cellsI] using hown'

set_option maxHeartbeats 2000000 in
theorem growR_c (n : Nat) (w : World) (h1 : 1 ≤ n) (hn : n ≤ 1000) :
    Calls Tryd.prog 78 #[.slice none 0 0, .int .i64 n] w fun e w' => ∃ a' c', e = .returned (.slice a' 0 c') ∧ Own w' w.heap.size (.slice a' 0 c') [] ∧ Below w.heap.size w w' := by
  obtain ⟨ib, hib, hb0, hb1, hb2⟩ := info_parts Tryd.infoInt
  obtain ⟨G, hG⟩ : ∃ G, G = grownCap w n 0 3 := ⟨_, rfl⟩
  have hGe : n ≤ G := by rw [hG]; exact grownCap_ge _ _ _ _
  have hGm : G ≤ maxLen := by rw [hG]; exact grownCap_le_maxLen w n 0 3 (by unfold maxLen; omega)
  obtain ⟨ROW, hROW⟩ : ∃ ROW : Array Value, ROW = Builtin.zeroCells (Value.int .i64 0).cells n ++ Builtin.zeroCells (Value.int .i64 0).cells (G - n) := ⟨_, rfl⟩
  have hrz : ∀ ty, (Builtin.append_ #[64, 3] ty #[.slice none 0 0, .int .i64 (n : Int)]).run Tryd.prog w = .ok (.slice (some ⟨w.heap.size, 0, none⟩) n G) (w.drew.alloc (.cells ROW 3)) := fun ty => by
    rw [hROW, hG]
    exact Lib.run_append_nil_zeros (P := Tryd.prog) w 64 3 ty 3 ib (.int .i64 0) .i64 .i64 Tryd.underlying64 Tryd.underlying3 hib hb0 n (by omega) (by rw [hb1]; decide) (by omega) (by rw [hb2]; omega)
  have hO : Own (w.drew.alloc (.cells ROW 3)) w.heap.size (.slice (some ⟨w.heap.size, 0, none⟩) 0 G) [] := by
    refine ⟨rfl, .inr ⟨w.heap.size, G, ROW, rfl, Nat.le_refl _, heap_alloc_new w.drew _, Nat.zero_le _, hGm, ?_, ?_⟩⟩
    · rw [hROW]
      simp only [Array.size_append, size_zeroCells]
      simp [Value.cells]
      omega
    · simp [cellsI]
  have HO : Hid (Own (w.drew.alloc (.cells ROW 3)) w.heap.size (.slice (some ⟨w.heap.size, 0, none⟩) 0 G) []) := hO
  have HB : Hid (Below w.heap.size w (w.drew.alloc (.cells ROW 3))) := ⟨rfl, rfl, rfl, by simp, fun k hk => heap_alloc_old w _ hk⟩
  have n0 : ¬ (G = 0) := by omega
  unfold maxLen at hGm
  clear hG hROW hO
  go_enter Tryd.func78, Tryd.ntmps78
  go_wp2_with (at_builtin; refine Lib.wpList_append_run _ rfl _ _ _ _ rfl _ _ rfl rfl _ _ (hrz _) ?_)
  go_ret
  exact ⟨_, _, rfl, HO.out, HB.out⟩

theorem growR_zero (w : World) :
    Calls Tryd.prog 78 #[.slice none 0 0, .int .i64 ((0 : Nat) : Int)] w fun e w' => ∃ a' c', e = .returned (.slice a' 0 c') ∧ Own w' w.heap.size (.slice a' 0 c') [] ∧ Below w.heap.size w w' := by
  go_enter Tryd.func78, Tryd.ntmps78
  go_wp2
  go_ret
  exact ⟨none, 0, rfl, World.ownsRow_nil _ _ _ _, Below.refl _ _⟩

/-- Two slices lie in the cells of block b. -/
def Two (w : World) (b : Nat) (vs : List (List Int)) : Prop := vs.length = 2 ∧ ∀ k, k < 2 → ∃ T c, w.cell? ⟨b, k, none⟩ = some (.slice T (vs.getD k []).length c) ∧ (vs.getD k []).length ≤ 16 ∧ Rd w T (vs.getD k []) ∧ (T = none → (vs.getD k []).length = 0 ∧ c = 0)
theorem Two.later {w w' : World} {b : Nat} {vs : List (List Int)} (h : Two w b vs) (hb : Below w.heap.size w w') : Two w' b vs := by
  refine ⟨h.1, fun k hk => ?_⟩
  obtain ⟨T, c, h1, h2, h3, h4⟩ := h.2 k hk
  exact ⟨T, c, (hb.cell (p := ⟨b, k, none⟩) (World.block_lt_of_cell? w _ h1)).trans h1, h2, h3.later hb, h4⟩
def upR (vs : List (List Int)) (k : Nat) : List Int := (vs.take k).flatten
theorem take_snocR {vs : List (List Int)} {k : Nat} (h : k < vs.length) : vs.take (k + 1) = vs.take k ++ [vs.getD k []] := by
  rw [List.take_succ_eq_append_getElem h]; simp [List.getD, h]
theorem upR_succ {vs : List (List Int)} {k : Nat} (hk : k < vs.length) : upR vs (k + 1) = upR vs k ++ vs.getD k [] := by
  unfold upR
  rw [take_snocR hk, List.flatten_append]; simp
theorem upR_le {vs : List (List Int)} (h : ∀ k, k < 2 → (vs.getD k []).length ≤ 16) (hl : vs.length = 2) : ∀ k, k ≤ 2 → (upR vs k).length ≤ 16 * k
  | 0, _ => by simp [upR]
  | k + 1, hk => by
    rw [upR_succ (by omega), List.length_append]
    have := upR_le h hl k (by omega)
    have := h k (by omega)
    omega

set_option maxHeartbeats 4000000 in
theorem concatR_c (b c0 : Nat) (vs : List (List Int)) (w : World) (h : Two w b vs) :
    Calls Tryd.prog 67 #[.slice (some ⟨b, 0, none⟩) 2 c0] w fun e w' => ∃ v, e = .returned v ∧ Own w' w.heap.size v (upR vs 2) ∧ Below w.heap.size w w' := by
  have HF : Hid (Two w b vs) := h
  have HLE : Hid (∀ k, k ≤ 2 → (upR vs k).length ≤ 16 * k) := upR_le (fun k hk => by obtain ⟨_, _, _, h3, _⟩ := h.2 k hk; exact h3) h.1
  have HSU : Hid (∀ k, k < 2 → upR vs (k + 1) = upR vs k ++ vs.getD k []) := fun k hk => upR_succ (by rw [h.1]; exact hk)
  clear h
  go_enter Tryd.func67, Tryd.ntmps67
  go_wp2
  go_loop [3, 11] (fun z i => ∃ k : Nat, k ≤ 2 ∧ i = .int .i64 k ∧ z = .int .i64 ((upR vs k).length : Nat)) (fun _ i => 2 - (intOf i).toNat)
  case atStart => exact ⟨0, Nat.zero_le _, rfl, rfl⟩
  case round =>
    obtain ⟨k, hk, rfl, rfl⟩ := hrel
    by_cases hlt : k < 2
    · obtain ⟨T, c, g1, g3, _, _⟩ := HF.out.2 k hlt
      have hle := HLE.out k (by omega)
      have HS : Hid ((upR vs (k + 1)).length = (upR vs k).length + (vs.getD k []).length) := by show _ = _; rw [HSU.out k hlt, List.length_append]
      generalize (upR vs k).length = z at hle HS
      generalize (vs.getD k []).length = y at g1 g3 HS
      have k0 : (0 : Int) ≤ (k : Int) := by omega
      have k1 : (k : Int) < 2 := by omega
      go_wp2
      go_round
      case rel => exact ⟨k + 1, by omega, by go_num, by rw [HS.out]; go_num⟩
      case measure => simp [intOf]; omega
    · obtain rfl : k = 2 := by omega
      have hle := HLE.out 2 (by omega)
      obtain ⟨z, hz⟩ : ∃ z, (upR vs 2).length = z := ⟨_, rfl⟩
      rw [hz] at hle ⊢
      have HZ : Hid ((upR vs 2).length = z) := hz
      have q1 : Calls Tryd.prog 78 #[.slice none 0 0, .int .i64 z] w fun e w' => ∃ a' c', e = .returned (.slice a' 0 c') ∧ Own w' w.heap.size (.slice a' 0 c') [] ∧ Below w.heap.size w w' := by
        by_cases h0 : z = 0
        · subst h0
          exact growR_zero w
        · exact growR_c z w (by omega) (by omega)
      clear hz
      go_wp2_with fail
      refine q1.mono ?_
      clear q1
      rintro e w1 ⟨a', c', rfl, ho, hb⟩
      have HO : Hid (Own w1 w.heap.size (.slice a' 0 c') []) := ho
      have HB : Hid (Below w.heap.size w w1) := hb
      clear ho hb
      go_wp2
      go_loopw [6, 27] (fun v i wr => ∃ k : Nat, k ≤ 2 ∧ i = .int .i64 k ∧ Hid (Own wr w.heap.size v (upR vs k)) ∧ Hid (Below w.heap.size w wr)) (fun _ i _ => 2 - (intOf i).toNat)
      case atStart => exact ⟨0, Nat.zero_le _, rfl, HO, HB⟩
      case round =>
        clear HO HB
        obtain ⟨k, hk, rfl, hO, hB⟩ := hrel
        by_cases hlt : k < 2
        · obtain ⟨T, c, g1, g3, g4, g5⟩ := (HF.out.later hB.out).2 k hlt
          have hle := HLE.out k (by omega)
          have HS : Hid (upR vs (k + 1) = upR vs k ++ vs.getD k []) := HSU.out k hlt
          generalize vs.getD k [] = C at g1 g3 g4 g5 HS
          generalize upR vs k = A at hO hle HS
          obtain ⟨v', w2, hrun, how, hgr, hbw⟩ := appendR_run wr w.heap.size u6 A C T C.length c hO.out g4 rfl g5 (by omega) hB.out.size
          have HO1 : Hid (Own w2 w.heap.size v' (A ++ C)) := how
          have HB2 : Hid (Below w.heap.size w w2) := hB.out.trans hbw
          have k0 : (0 : Int) ≤ (k : Int) := by omega
          have k1 : (k : Int) < 2 := by omega
          clear hO how hgr hbw g4 g5
          go_wp2_with (at_builtin; refine Lib.wpList_append_run _ rfl _ _ _ _ rfl _ _ rfl rfl _ _ (hrun _) ?_; clear hrun)
          go_roundw
          case rel => exact ⟨k + 1, by omega, by go_num, (by show Own _ _ _ _; rw [HS.out]; exact HO1.out), HB2⟩
          case measure => simp [intOf]; omega
        · obtain rfl : k = 2 := by omega
          go_wp2
          go_ret
          exact ⟨_, rfl, hO.out, hB.out⟩

end Go.Proofs.YtjpegbodhpnflaaDoor
