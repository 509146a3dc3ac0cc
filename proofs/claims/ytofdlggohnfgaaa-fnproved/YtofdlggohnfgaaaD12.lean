/- Chapter 12: what is drawn: bits, claims. -/
import Derived.Test.YtofdlggohnfgaaaD3G
import Derived.Test.YtofdlggohnfgaaaB3B
import Derived.Test.YtofdlggohnfgaaaX12
namespace Go.Proofs.Ytofdlggohnfgaaa
set_option linter.unusedVariables false
set_option maxRecDepth 1000000
set_option linter.unusedSimpArgs false
open Go.RowKit

theorem grown_trans' {a b c : World} {r : Option Nat} (h : a.grownBy b r) (k : b.grownBy c r) : a.grownBy c r := grown_trans h k

set_option maxHeartbeats 2000000 in
theorem bits_c (g : Nat) (ao : Option Addr) (n c many : Nat) (M : Int) (w : World) (hM : M ≤ 1000000) (hm : many ≤ 100) (h : Cur w g ao n c M) :
    Calls Try.prog 51 #[.pointer (some ⟨g, 0, none⟩), .int .i64 many] w fun e w' => ∃ a' c' zs, e = .returned (.slice a' many c') ∧ zs.length = many ∧ OwnB w' w.heap.size (.slice a' many c') zs ∧ Cur w' g ao n c (M + 200) ∧ GB g w w' := by
  obtain ⟨i0, hi, hz0, hz1, hz2⟩ := info_parts Try.infoBool
  have HC : Hid (Cur w g ao n c M) := h
  have HOld : Hid (Old ao n w.heap.size) := h.code.old
  have hgl : g < w.heap.size := h.lt
  clear h
  go_enter Try.func51, Try.ntmps51
  go_wp2
  go_loopw [5, 6] (fun v i wr => ∃ (k : Nat) (zs : List Bool), k ≤ many ∧ i = .int .i64 k ∧ Hid (zs.length = k) ∧ Hid (OwnB wr w.heap.size v zs) ∧ Hid (Cur wr g ao n c (M + 2 * k)) ∧ Hid (GB g w wr)) (fun _ i _ => many - (intOf i).toNat)
  case atStart => exact ⟨0, [], Nat.zero_le _, rfl, rfl, World.ownsRow_nil _ _ _ _, HC.out.mono (by omega), GB.refl _ _⟩
  case round =>
    clear HC
    obtain ⟨k, zs, hk, rfl, hL, hO, hC, hG⟩ := hrel
    by_cases hlt : k < many
    · have k1 : (k : Int) < (many : Int) := by omega
      go_wp2_with (first | (go_at_call 50; refine (one_c g ao n c (M + 2 * k) 2 _ (by omega) (by omega) hC.out).mono ?_; rintro e w1 ⟨x, rfl, hc1, hg1⟩; have HC1 : Hid (Cur w1 g ao n c (M + 2 * k + 2)) := hc1; have HG1 : Hid (GB g w w1) := hG.out.trans hg1; have HO1 : Hid (OwnB w1 w.heap.size u5 zs) := hO.out.kept hg1 (by rcases hb : u5.ownBlock with _ | b; exact Or.inl rfl; exact Or.inr (fun e => by have := own_block_geB hO.out b hb; simp at e; omega)); have hown : w1.ownsRow w.heap.size 4 1 u5 k (cellsB zs) := (by have h := HO1.out; unfold OwnB at h; rw [hL.out] at h; exact h); have hob : ∀ k', u5.ownBlock = some k' → w.heap.size ≤ k' := own_block_geB HO1.out; have hws : w.heap.size ≤ w1.heap.size := HG1.out.size; clear hc1 hg1 hC hG hO) | (at_builtin; refine wpList_append_own _ rfl _ _ 23 rfl w.heap.size 4 i0 (.bool false) 1 1 Try.underlying23 hi hz0 hz1 hz2 rfl (by decide) _ _ _ rfl (hown.alloc _) ⟨w1.heap.size, 0, none⟩ 1 1 [.bool x] rfl rfl (cell_new1 _ _ _) (bools_oneCell [x]) (by unfold maxLen; omega) (by omega) (by simp; omega) ?_; intro v' w2 hown' hgrow _; have HO2 : Hid (OwnB w2 w.heap.size v' (zs ++ [x])) := own_pushB (w := w1) (v := u5) (by simpa [hL.out] using hown'); have HC2 : Hid (Cur w2 g ao n c (M + 2 * k + 2)) := (HC1.out.alloc _).grown hgrow hob hgl HOld.out; have HG2 : Hid (GB g w w2) := (HG1.out.alloc _).grown hgrow hob; clear hown' hgrow hown hob HC1 HG1 HO1))
      go_roundw
      case rel => exact ⟨k + 1, zs ++ [x], by omega, by go_num, by show (zs ++ [x]).length = _; rw [List.length_append, hL.out]; rfl, HO2, HC2.out.mono (by push_cast; omega), HG2⟩
      case measure => simp [intOf]; omega
    · obtain rfl : k = many := by omega
      obtain ⟨a', c', hv⟩ := hO.out.shape
      rw [hL.out] at hv
      subst hv
      go_wp2
      go_ret
      exact ⟨a', c', zs, rfl, hL.out, hO.out, hC.out.mono (by omega), hG.out⟩

set_option maxHeartbeats 4000000 in
theorem claim_c (g : Nat) (ao : Option Addr) (n c : Nat) (M : Int) (w : World) (hM : M ≤ 1000000000) (h : Cur w g ao n c M) :
    Calls Try.prog 53 #[.pointer (some ⟨g, 0, none⟩)] w fun e w' => ∃ x y z : Int, e = .returned (.agg #[.int .i64 x, .int .i64 y, .int .i64 z]) ∧ Cur w' g ao n c (M + 8) ∧ GB g w w' := by
  have hgl : g < w.heap.size := h.lt
  have HOld : Hid (Old ao n w.heap.size) := h.code.old
  have cX := x3_new w (.int .i64 0) (.int .i64 0) (.int .i64 0) 25 w.heap.size rfl
  have HC : Hid (Cur (w.alloc (.cells #[.int .i64 0, .int .i64 0, .int .i64 0] 25)) g ao n c M) := h.alloc _
  have HGa : Hid (GB g w (w.alloc (.cells #[.int .i64 0, .int .i64 0, .int .i64 0] 25))) := (GB.refl g w).alloc _
  have HXa : Hid (X3 (w.alloc (.cells #[.int .i64 0, .int .i64 0, .int .i64 0] 25)) w.heap.size (.int .i64 0) (.int .i64 0) (.int .i64 0)) := cX
  clear h cX
  go_enter Try.func53, Try.ntmps53
  go_wp2_with fail
  refine (one_c g ao n c M 30 _ (by omega) (by omega) HC.out).mono ?_
  rintro e w1 ⟨b, rfl, hc, hg⟩
  have HX1 : Hid (X3 w1 w.heap.size (.int .i64 0) (.int .i64 0) (.int .i64 0)) := HXa.out.grown hg (fun e => by have e2 := Option.some.inj e; omega)
  have HG1 : Hid (GB g w w1) := HGa.out.trans hg
  have HC1 : Hid (Cur w1 g ao n c (M + 2)) := hc
  have hs1 : w.heap.size < w1.heap.size := by have := hg.size; simp at this; omega
  clear hc hg HC HGa HXa
  cases b
  · skip
    go_wp2_with fail
    refine (pick_c g ao n c _ 3 _ (by omega) (by omega) HC1.out).mono ?_
    rintro e w2 ⟨x, rfl, _, _, hc, hg⟩
    have HX2 : Hid (X3 w2 w.heap.size (.int .i64 0) (.int .i64 0) (.int .i64 0)) := HX1.out.grown hg (fun e => by have e2 := Option.some.inj e; omega)
    have HG2 : Hid (GB g w w2) := HG1.out.trans hg
    have hs2 : w.heap.size < w2.heap.size := by have := hg.size; omega
    have HC2 : Hid (Cur w2 g ao n c (M + 4)) := hc.mono (by omega)
    clear hc hg HX1 HG1 HC1
    go_wp2_with fail
    refine (pick_c g ao n c _ 3 _ (by omega) (by omega) HC2.out).mono ?_
    rintro e w3 ⟨y, rfl, _, _, hc, hg⟩
    have HX3 : Hid (X3 w3 w.heap.size (.int .i64 0) (.int .i64 0) (.int .i64 0)) := HX2.out.grown hg (fun e => by have e2 := Option.some.inj e; omega)
    have HG3 : Hid (GB g w w3) := HG2.out.trans hg
    have hs3 : w.heap.size < w3.heap.size := by have := hg.size; omega
    have HC3 : Hid (Cur w3 g ao n c (M + 6)) := hc.mono (by omega)
    clear hc hg HX2 HG2 HC2
    go_wp2_with fail
    refine (pick_c g ao n c _ 2 _ (by omega) (by omega) HC3.out).mono ?_
    rintro e w4 ⟨z, rfl, _, _, hc, hg⟩
    have HX4 : Hid (X3 w4 w.heap.size (.int .i64 0) (.int .i64 0) (.int .i64 0)) := HX3.out.grown hg (fun e => by have e2 := Option.some.inj e; omega)
    have HG4 : Hid (GB g w w4) := HG3.out.trans hg
    have hs4 : w.heap.size < w4.heap.size := by have := hg.size; omega
    have HC4 : Hid (Cur w4 g ao n c (M + 8)) := hc.mono (by omega)
    clear hc hg HX3 HG3 HC3
    obtain ⟨⟨a0, a1, a2⟩, af⟩ := id HX4.out
    have f0 := af 0
    have f1 := af 1
    have f2 := af 2
    clear af
    have hX := ((HX4.out.set0 (.int .i64 x)).set1 (.int .i64 y)).set2 (.int .i64 z)
    have hgr := grown_trans' (grown_trans' (grown_setCell w4 w.heap.size 0 (.int .i64 x)) (grown_setCell _ w.heap.size 1 (.int .i64 y))) (grown_setCell _ w.heap.size 2 (.int .i64 z))
    have HCf := HC4.out.grown (B := w.heap.size) hgr (fun k e => by have e2 := Option.some.inj e; omega) hgl HOld.out
    have HGf := HG4.out.grown hgr (fun k e => by have e2 := Option.some.inj e; omega)
    have HCz : Hid (Cur _ g ao n c (M + 8)) := HCf
    have HGz : Hid (GB g w _) := HGf
    obtain ⟨⟨b0, b1, b2⟩, _⟩ := hX
    clear hgr HCf HGf HX4 HC4 HG4
    go_wp2
    refine bodyPost_ret (v := .agg #[.int .i64 x, .int .i64 y, .int .i64 z]) (by simp [results, Try.results53, go_sem, b0, b1, b2]; try rfl) rfl ?_
    exact ⟨x, y, z, rfl, HCz.out, HGz.out⟩
  · skip
    have hlit := lit_cells (fun _ => True) w1 #[.int .i64 (-1), .int .i64 20, .int .i64 21] 3 3 rfl ⟨trivial, trivial, trivial, trivial⟩
    have hbl := balloc w1 (.cells #[.int .i64 (-1), .int .i64 20, .int .i64 21] 3)
    go_wp2_with fail
    refine (among_p (fun _ => True) g ao n c _ w1.heap.size 3 _ (by omega) (by omega) hlit (by omega) (HC1.out.alloc _)).mono ?_
    rintro e w2 ⟨x, rfl, _, hc, hg⟩
    have HX2 : Hid (X3 w2 w.heap.size (.int .i64 0) (.int .i64 0) (.int .i64 0)) := (HX1.out.later hbl).grown hg (fun e => by have e2 := Option.some.inj e; omega)
    have HG2 : Hid (GB g w w2) := (HG1.out.alloc _).trans hg
    have hs2 : w.heap.size < w2.heap.size := by have := hg.size; have := hbl.size; omega
    have HC2 : Hid (Cur w2 g ao n c (M + 4)) := hc.mono (by omega)
    clear hc hg HX1 HG1 HC1 hlit hbl
    have hlit := lit_cells (fun _ => True) w2 #[.int .i64 0, .int .i64 1000, .int .i64 1001] 3 3 rfl ⟨trivial, trivial, trivial, trivial⟩
    have hbl := balloc w2 (.cells #[.int .i64 0, .int .i64 1000, .int .i64 1001] 3)
    go_wp2_with fail
    refine (among_p (fun _ => True) g ao n c _ w2.heap.size 3 _ (by omega) (by omega) hlit (by omega) (HC2.out.alloc _)).mono ?_
    rintro e w3 ⟨y, rfl, _, hc, hg⟩
    have HX3 : Hid (X3 w3 w.heap.size (.int .i64 0) (.int .i64 0) (.int .i64 0)) := (HX2.out.later hbl).grown hg (fun e => by have e2 := Option.some.inj e; omega)
    have HG3 : Hid (GB g w w3) := (HG2.out.alloc _).trans hg
    have hs3 : w.heap.size < w3.heap.size := by have := hg.size; have := hbl.size; omega
    have HC3 : Hid (Cur w3 g ao n c (M + 6)) := hc.mono (by omega)
    clear hc hg HX2 HG2 HC2 hlit hbl
    have hlit := lit_cells (fun _ => True) w3 #[.int .i64 0, .int .i64 100, .int .i64 101] 3 3 rfl ⟨trivial, trivial, trivial, trivial⟩
    have hbl := balloc w3 (.cells #[.int .i64 0, .int .i64 100, .int .i64 101] 3)
    go_wp2_with fail
    refine (among_p (fun _ => True) g ao n c _ w3.heap.size 3 _ (by omega) (by omega) hlit (by omega) (HC3.out.alloc _)).mono ?_
    rintro e w4 ⟨z, rfl, _, hc, hg⟩
    have HX4 : Hid (X3 w4 w.heap.size (.int .i64 0) (.int .i64 0) (.int .i64 0)) := (HX3.out.later hbl).grown hg (fun e => by have e2 := Option.some.inj e; omega)
    have HG4 : Hid (GB g w w4) := (HG3.out.alloc _).trans hg
    have hs4 : w.heap.size < w4.heap.size := by have := hg.size; have := hbl.size; omega
    have HC4 : Hid (Cur w4 g ao n c (M + 8)) := hc.mono (by omega)
    clear hc hg HX3 HG3 HC3 hlit hbl
    obtain ⟨⟨a0, a1, a2⟩, af⟩ := id HX4.out
    have f0 := af 0
    have f1 := af 1
    have f2 := af 2
    clear af
    have hX := ((HX4.out.set0 (.int .i64 x)).set1 (.int .i64 y)).set2 (.int .i64 z)
    have hgr := grown_trans' (grown_trans' (grown_setCell w4 w.heap.size 0 (.int .i64 x)) (grown_setCell _ w.heap.size 1 (.int .i64 y))) (grown_setCell _ w.heap.size 2 (.int .i64 z))
    have HCf := HC4.out.grown (B := w.heap.size) hgr (fun k e => by have e2 := Option.some.inj e; omega) hgl HOld.out
    have HGf := HG4.out.grown hgr (fun k e => by have e2 := Option.some.inj e; omega)
    have HCz : Hid (Cur _ g ao n c (M + 8)) := HCf
    have HGz : Hid (GB g w _) := HGf
    obtain ⟨⟨b0, b1, b2⟩, _⟩ := hX
    clear hgr HCf HGf HX4 HC4 HG4
    go_wp2
    refine bodyPost_ret (v := .agg #[.int .i64 x, .int .i64 y, .int .i64 z]) (by simp [results, Try.results53, go_sem, b0, b1, b2]; try rfl) rfl ?_
    exact ⟨x, y, z, rfl, HCz.out, HGz.out⟩

end Go.Proofs.Ytofdlggohnfgaaa
