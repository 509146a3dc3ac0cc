/- Chapter 16: a window of numbers that were seen. -/
import Derived.Test.YtjpegbodhpnflaaDoorK16
namespace Go.Proofs.YtjpegbodhpnflaaDoor
set_option linter.unusedVariables false
set_option maxRecDepth 1000000
set_option linter.unusedSimpArgs false
open Go.RowKit

theorem cell2 {w w' : World} {g : Nat} {x y : Value} {t : TypeId} {B : Nat} (hb : Below B w w') (hB : g < B) (hw : w.heap[g]? = some (.cells #[x, y] t (0, 0))) :
    w'.cell? ⟨g, 0, none⟩ = some x ∧ w'.cell? ⟨g, 1, none⟩ = some y ∧ w'.frozen? ⟨g, 0, none⟩ = false ∧ w'.frozen? ⟨g, 1, none⟩ = false := by
  have h : w'.heap[g]? = some (.cells #[x, y] t (0, 0)) := (hb.block g hB).trans hw
  refine ⟨?_, ?_, ?_, ?_⟩
  · unfold World.cell?; rw [h]; rfl
  · unfold World.cell?; rw [h]; rfl
  · unfold World.frozen?; rw [h]; rfl
  · unfold World.frozen?; rw [h]; rfl

set_option maxHeartbeats 2000000 in
theorem windowOf_c (ao : Option Addr) (n c : Nat) (xs : List Int) (w : World) (hx : xs.length = n) (hn : n ≤ 1000) (hr : Rd w ao xs) (hR : Ris ltI xs) (ht : 0 ≤ topL xs ∧ topL xs ≤ 100000) :
    Calls Tryd.prog 49 #[.slice ao n c] w fun e w' => e = .returned (.agg #[.int .i64 (topL xs), .int .i64 (WB 16 (topL xs) xs : Nat)]) ∧ Below w.heap.size w w' := by
  have qg := fun wx (h : Below w.heap.size w wx) => greatest_c ao n c xs wx hx (by omega) (hr.later h)
  have HH : Hid (∀ z wx, Below w.heap.size w wx → Calls Tryd.prog 58 #[.slice ao n c, .int .i64 z] wx fun e w' => e = .returned (.bool (decide (z ∈ xs))) ∧ Below wx.heap.size wx w') := fun z wx h => has_c ao n c xs z wx hx (by omega) (hr.later h) hR
  have HW : Hid (∀ t, VL (sgL 16 t xs) (sgL 16 t xs).length = WB 16 t xs) := fun t => by rw [sgL_len, VL_sg]
  generalize topL xs = t at qg ht ⊢
  clear hx hr hR
  go_enter Tryd.func49, Tryd.ntmps49
  go_wp2_with fail
  refine (qg _ (balloc w _)).mono ?_
  clear qg
  rintro e w1 ⟨rfl, hw⟩
  subst w1
  go_wp2
  obtain ⟨W1, hW1⟩ : ∃ X, w.alloc (.cells #[.int .i64 0, .int .i64 0] 26) = X := ⟨_, rfl⟩
  have hS1 : W1.heap.size = w.heap.size + 1 := by rw [← hW1]; simp
  have hbx : W1.heap[w.heap.size]? = some (.cells #[.int .i64 0, .int .i64 0] 26 (0, 0)) := by rw [← hW1]; exact heap_alloc_new w _
  have HB1 : Hid (Below w.heap.size w W1) := by rw [← hW1]; exact balloc w _
  have hF : Lib.IsBuilderF 84 5 W1.heap.size W1.heap.size (Lib.byteCells []) (W1.alloc (.cells #[.pointer none, .slice none 0 0] 84)) := Lib.IsBuilderF.of (Lib.fresh_isBuilder _ _ W1)
  rw [hS1] at hF
  rw [hW1]
  clear hW1
  go_loopw [5] (fun nv wr => ∃ (i : Nat), i ≤ 16 ∧ nv = .int .i64 (t - 15 + (i : Int)) ∧ Hid (Lib.IsBuilderF 84 5 (w.heap.size + 1) (w.heap.size + 1) (Lib.byteCells (sgL i (t - 16 + (i : Int)) xs)) wr) ∧ Hid (Below (w.heap.size + 1) W1 wr)) (fun nv wr => (t + 1 - intOf nv).toNat)
  case atStart =>
    refine ⟨0, by omega, by go_num, hF, ?_⟩
    show Below _ _ _
    rw [← hS1]
    exact balloc W1 _
  case round =>
    obtain ⟨i, hi, rfl, HI, HB⟩ := hrel
    have hBw : w.heap.size + 1 ≤ wr.heap.size := by rw [← hS1]; exact HB.out.size
    have hBW : Below w.heap.size w wr := HB1.out.trans (HB.out.mono (by omega))
    by_cases hlt : i < 16
    · have q := HH.out (t - 15 + (i : Int)) wr hBW
      have hle : t - 15 + (i : Int) ≤ t := by omega
      have HS : Hid (∀ w2, Lib.IsBuilderF 84 5 (w.heap.size + 1) (w.heap.size + 1) (Lib.byteCells (sgL i (t - 16 + (i : Int)) xs)) w2 → w.heap.size + 1 ≤ w2.heap.size → Calls Tryd.prog 63 #[.pointer (some ⟨w.heap.size + 1, 0, none⟩), .int .i32 (if decide (t - 15 + (i : Int) ∈ xs) = true then 49 else 48)] w2 fun e w' => ∃ v, e = .returned (.tuple #[.int .i64 1, v]) ∧ Lib.IsBuilderF 84 5 (w.heap.size + 1) (w.heap.size + 1) (Lib.byteCells (sgL (i + 1) (t - 16 + ((i + 1 : Nat) : Int)) xs)) w' ∧ Below (w.heap.size + 1) w2 w') := fun w2 h hB2 => by
        have h3 := writeSign_c _ _ _ (decide (t - 15 + (i : Int) ∈ xs)) w2 h (by rw [sgL_len]; omega) hB2
        have e1 : sgL (i + 1) (t - 16 + ((i + 1 : Nat) : Int)) xs = sgL i (t - 16 + (i : Int)) xs ++ [if decide (t - 15 + (i : Int) ∈ xs) = true then 49 else 48] := by
          rw [sgL, show t - 16 + ((i + 1 : Nat) : Int) - 1 = t - 16 + (i : Int) by omega, show t - 16 + ((i + 1 : Nat) : Int) = t - 15 + (i : Int) by omega]
        rw [e1]
        exact h3
      generalize decide (t - 15 + (i : Int) ∈ xs) = zb at q HS
      have HQ2 : Hid (∀ wx, Calls Tryd.prog 64 #[.bool zb] wx fun e w' => e = .returned (.int .i32 (if zb = true then 49 else 48)) ∧ w' = wx) := fun wx => signFor_c zb wx
      generalize (if zb = true then (49 : Int) else 48) = r at HS HQ2
      go_wp2_with fail
      refine q.mono ?_
      clear q
      rintro e w2 ⟨rfl, hb2⟩
      have HI2 : Hid (Lib.IsBuilderF 84 5 (w.heap.size + 1) (w.heap.size + 1) (Lib.byteCells (sgL i (t - 16 + (i : Int)) xs)) w2) := bld_later HI.out hb2
      have hB2 : w.heap.size + 1 ≤ w2.heap.size := Nat.le_trans hBw hb2.size
      have HB2 : Hid (Below (w.heap.size + 1) W1 w2) := HB.out.trans (hb2.mono hBw)
      clear hb2
      go_wp2_with fail
      refine (HQ2.out _).mono ?_
      rintro e w3 ⟨rfl, hw⟩
      subst w3
      go_wp2_with fail
      refine (HS.out _ HI2.out hB2).mono ?_
      rintro e w3 ⟨v, rfl, h3, b3⟩
      have HI3 : Hid (Lib.IsBuilderF 84 5 (w.heap.size + 1) (w.heap.size + 1) (Lib.byteCells (sgL (i + 1) (t - 16 + ((i + 1 : Nat) : Int)) xs)) w3) := h3
      have HB3 : Hid (Below (w.heap.size + 1) W1 w3) := HB2.out.trans b3
      clear h3 b3 HS HQ2
      go_wp2
      go_roundw
      case rel => exact ⟨i + 1, by omega, by go_num, HI3, HB3⟩
      case measure => simp [intOf]; omega
    · obtain rfl : i = 16 := by omega
      have hgt : ¬ t - 15 + ((16 : Nat) : Int) ≤ t := by omega
      have q := textOf_c (w.heap.size + 1) (w.heap.size + 1) _ wr HI.out hBw
      have HQ : Hid (∀ wx, Calls Tryd.prog 65 #[.string (tx (sgL 16 (t - 16 + ((16 : Nat) : Int)) xs))] wx fun e w' => e = .returned (.int .i64 (WB 16 t xs : Nat)) ∧ Below wx.heap.size wx w') := fun wx => by
        rw [show t - 16 + ((16 : Nat) : Int) = t by omega, ← HW.out t]
        exact bitsOf_c (sgL 16 t xs) wx (by rw [sgL_len]; exact Nat.le_refl _) (sgL_two 16 t xs)
      generalize tx (sgL 16 (t - 16 + ((16 : Nat) : Int)) xs) = S at q HQ
      obtain ⟨R, hR⟩ : ∃ R, WB 16 t xs = R := ⟨_, rfl⟩
      rw [hR] at HQ
      have HXR : Hid (WB 16 t xs = R) := hR
      clear hR
      go_wp2_with fail
      refine q.mono ?_
      clear q
      rintro e w2 ⟨rfl, hb2⟩
      have HB2 : Hid (Below (w.heap.size + 1) W1 w2) := HB.out.trans hb2
      clear hb2
      go_wp2_with fail
      refine (HQ.out _).mono ?_
      clear HQ
      rintro e w3 ⟨rfl, hb3⟩
      have hB3 : Below (w.heap.size + 1) W1 w3 := HB2.out.trans (hb3.mono (by rw [← hS1]; exact HB2.out.size))
      obtain ⟨c0, c1, f0, f1⟩ := cell2 hB3 (by omega) hbx
      have HBF : Hid (∀ u v, Below w.heap.size w ((w3.setCell ⟨w.heap.size, 0, none⟩ u).setCell ⟨w.heap.size, 1, none⟩ v)) := fun u v => ((HB1.out.trans (hB3.mono (by omega))).setCell (p := ⟨w.heap.size, 0, none⟩) (Nat.le_refl _) u).setCell (p := ⟨w.heap.size, 1, none⟩) (Nat.le_refl _) v
      have hc0 : ((w3.setCell ⟨w.heap.size, 0, none⟩ (.int .i64 t)).setCell ⟨w.heap.size, 1, none⟩ (.int .i64 R)).cell? ⟨w.heap.size, 0, none⟩ = some (.int .i64 t) := by
        rw [World.cell?_setCell_other _ _ _ _ (by simp)]
        exact World.cell?_setCell_same _ _ _ c0
      have hc1 : ((w3.setCell ⟨w.heap.size, 0, none⟩ (.int .i64 t)).setCell ⟨w.heap.size, 1, none⟩ (.int .i64 R)).cell? ⟨w.heap.size, 1, none⟩ = some (.int .i64 R) := World.cell?_setCell_same _ _ _ (by rw [World.cell?_setCell_other _ _ _ _ (by simp)]; exact c1)
      clear hb3 hB3 hbx
      go_wp2
      refine bodyPost_ret (v := .agg #[.int .i64 t, .int .i64 R]) (by simp [results, Tryd.results49, go_sem, hc0, hc1]; try rfl) rfl ?_
      exact ⟨by rw [HXR.out], HBF.out _ _⟩

end Go.Proofs.YtjpegbodhpnflaaDoor
