/- Chapter 8, the program: copies of mixes. -/
import Derived.Test.YtnppmgnfignbcaaG8
namespace Go.Proofs.Ytnppmgnfignbcaa
set_option linter.unusedVariables false
set_option maxRecDepth 1000000
set_option linter.unusedSimpArgs false
open Go.RowKit

theorem C5.set0 {w : World} {r : Nat} {p s : Value} {a b o : Int} (h : C5 w r p a b o s) (q : Value) : C5 (w.setCell ⟨r, 0, none⟩ q) r q a b o s := by
  obtain ⟨⟨c0, c1, c2, c3, c4⟩, f⟩ := h
  refine ⟨⟨World.cell?_setCell_same _ _ _ c0, ?_, ?_, ?_, ?_⟩, fun j => by rw [World.frozen?_setCell]; exact f j⟩
  · rw [World.cell?_setCell_other _ _ _ _ (by simp)]; exact c1
  · rw [World.cell?_setCell_other _ _ _ _ (by simp)]; exact c2
  · rw [World.cell?_setCell_other _ _ _ _ (by simp)]; exact c3
  · rw [World.cell?_setCell_other _ _ _ _ (by simp)]; exact c4
theorem C5.set3 {w : World} {r : Nat} {p s : Value} {a b o : Int} (h : C5 w r p a b o s) (q : Int) : C5 (w.setCell ⟨r, 3, none⟩ (.int .i64 q)) r p a b q s := by
  obtain ⟨⟨c0, c1, c2, c3, c4⟩, f⟩ := h
  refine ⟨⟨?_, ?_, ?_, World.cell?_setCell_same _ _ _ c3, ?_⟩, fun j => by rw [World.frozen?_setCell]; exact f j⟩
  · rw [World.cell?_setCell_other _ _ _ _ (by simp)]; exact c0
  · rw [World.cell?_setCell_other _ _ _ _ (by simp)]; exact c1
  · rw [World.cell?_setCell_other _ _ _ _ (by simp)]; exact c2
  · rw [World.cell?_setCell_other _ _ _ _ (by simp)]; exact c4
theorem C5.set4 {w : World} {r : Nat} {p s : Value} {a b o : Int} (h : C5 w r p a b o s) (q : Value) : C5 (w.setCell ⟨r, 4, none⟩ q) r p a b o q := by
  obtain ⟨⟨c0, c1, c2, c3, c4⟩, f⟩ := h
  refine ⟨⟨?_, ?_, ?_, ?_, World.cell?_setCell_same _ _ _ c4⟩, fun j => by rw [World.frozen?_setCell]; exact f j⟩
  · rw [World.cell?_setCell_other _ _ _ _ (by simp)]; exact c0
  · rw [World.cell?_setCell_other _ _ _ _ (by simp)]; exact c1
  · rw [World.cell?_setCell_other _ _ _ _ (by simp)]; exact c2
  · rw [World.cell?_setCell_other _ _ _ _ (by simp)]; exact c3
theorem C5.setOther {w : World} {r g k : Nat} {p s : Value} {a b o : Int} (h : C5 w r p a b o s) (hne : r ≠ g) (q : Value) : C5 (w.setCell ⟨g, k, none⟩ q) r p a b o s := h.grown (grown_setCell w g k q) (by simpa using hne)
/-- A box written anew. -/
def put5 (w : World) (r : Nat) (p : Value) (a b o : Int) (s : Value) : World := ((((w.setCell ⟨r, 0, none⟩ p).setCell ⟨r, 1, none⟩ (.int .i64 a)).setCell ⟨r, 2, none⟩ (.int .i64 b)).setCell ⟨r, 3, none⟩ (.int .i64 o)).setCell ⟨r, 4, none⟩ s
theorem put5_grown (w : World) (r : Nat) (p : Value) (a b o : Int) (s : Value) : w.grownBy (put5 w r p a b o s) (some r) :=
  grown_trans (grown_trans (grown_trans (grown_trans (grown_setCell _ _ _ _) (grown_setCell _ _ _ _)) (grown_setCell _ _ _ _)) (grown_setCell _ _ _ _)) (grown_setCell _ _ _ _)
theorem C5.put {w : World} {r : Nat} {p s : Value} {a b o : Int} (h : C5 w r p a b o s) (p' : Value) (a' b' o' : Int) (s' : Value) : C5 (put5 w r p' a' b' o' s') r p' a' b' o' s' := by
  obtain ⟨⟨c0, c1, c2, c3, c4⟩, f⟩ := h
  unfold put5
  refine ⟨⟨?_, ?_, ?_, ?_, ?_⟩, fun j => by simp only [World.frozen?_setCell]; exact f j⟩
  · rw [World.cell?_setCell_other _ _ _ _ (by simp), World.cell?_setCell_other _ _ _ _ (by simp), World.cell?_setCell_other _ _ _ _ (by simp), World.cell?_setCell_other _ _ _ _ (by simp)]
    exact World.cell?_setCell_same _ _ _ c0
  · rw [World.cell?_setCell_other _ _ _ _ (by simp), World.cell?_setCell_other _ _ _ _ (by simp), World.cell?_setCell_other _ _ _ _ (by simp)]
    exact World.cell?_setCell_same _ _ _ (by rw [World.cell?_setCell_other _ _ _ _ (by simp)]; exact c1)
  · rw [World.cell?_setCell_other _ _ _ _ (by simp), World.cell?_setCell_other _ _ _ _ (by simp)]
    exact World.cell?_setCell_same _ _ _ (by rw [World.cell?_setCell_other _ _ _ _ (by simp), World.cell?_setCell_other _ _ _ _ (by simp)]; exact c2)
  · rw [World.cell?_setCell_other _ _ _ _ (by simp)]
    exact World.cell?_setCell_same _ _ _ (by rw [World.cell?_setCell_other _ _ _ _ (by simp), World.cell?_setCell_other _ _ _ _ (by simp), World.cell?_setCell_other _ _ _ _ (by simp)]; exact c3)
  · exact World.cell?_setCell_same _ _ _ (by rw [World.cell?_setCell_other _ _ _ _ (by simp), World.cell?_setCell_other _ _ _ _ (by simp), World.cell?_setCell_other _ _ _ _ (by simp), World.cell?_setCell_other _ _ _ _ (by simp)]; exact c4)
theorem OwnS.setBox {w : World} {base r k : Nat} {v : Value} {xs : List ByteArray} (h : OwnS w base v xs) (hr : r < base) (q : Value) : OwnS (w.setCell ⟨r, k, none⟩ q) base v xs := h.kept (grown_setCell w r k q) (Or.inr fun e => by have := own_block_geS h _ e; omega)
theorem Own.setBox {w : World} {base r k : Nat} {v : Value} {xs : List Int} (h : Own w base v xs) (hr : r < base) (q : Value) : Own (w.setCell ⟨r, k, none⟩ q) base v xs := h.kept (grown_setCell w r k q) (Or.inr fun e => by have := own_block_ge h _ e; omega)
theorem OwnS.putBox {w : World} {base r : Nat} {v : Value} {xs : List ByteArray} (h : OwnS w base v xs) (hr : r < base) (p : Value) (a b o : Int) (s : Value) : OwnS (put5 w r p a b o s) base v xs := h.kept (put5_grown w r p a b o s) (Or.inr fun e => by have := own_block_geS h _ e; omega)
theorem Own.putBox {w : World} {base r : Nat} {v : Value} {xs : List Int} (h : Own w base v xs) (hr : r < base) (p : Value) (a b o : Int) (s : Value) : Own (put5 w r p a b o s) base v xs := h.kept (put5_grown w r p a b o s) (Or.inr fun e => by have := own_block_ge h _ e; omega)

/-- Two boxes, one laid behind the other. -/
theorem two_boxes (w : World) (p : Value) (a b o : Int) (s : Value) (t : TypeId) : ∃ W, (w.alloc (.cells #[p, .int .i64 a, .int .i64 b, .int .i64 o, s] t)).alloc (.cells #[.slice none 0 0, .int .i64 0, .int .i64 0, .int .i64 0, .slice none 0 0] t) = W ∧ C5 W w.heap.size p a b o s ∧ C5 W (w.heap.size + 1) (.slice none 0 0) 0 0 0 (.slice none 0 0) ∧ Below w.heap.size w W ∧ W.heap.size = w.heap.size + 2 :=
  ⟨_, rfl, (c5_new w p a b o s t _ rfl).later (balloc _ _), c5_new _ _ _ _ _ _ t _ (by simp), (balloc w _).trans ((balloc _ _).mono (by simp)), by simp⟩

set_option maxHeartbeats 4000000 in
theorem copyOfMix_c (po so : Option Addr) (n c m d : Nat) (a b t : Int) (xs : List ByteArray) (ys : List Int) (w : World) (hx : xs.length = n) (hy : ys.length = m) (hn : n ≤ 1000) (hm : m ≤ 1000) (hr : RdS w po xs) (hs : Rd w so ys) (hz : ∀ s ∈ xs, s.size ≤ 1000) (hnil : so = none → m = 0 ∧ d = 0) :
    Calls Try.prog 71 #[.agg #[.slice po n c, .int .i64 a, .int .i64 b, .int .i64 t, .slice so m d]] w fun e w' => ∃ p' c' s' d', e = .returned (.agg #[.slice p' n c', .int .i64 a, .int .i64 b, .int .i64 t, .slice s' m d']) ∧ OwnS w' w.heap.size (.slice p' n c') xs ∧ Own w' w.heap.size (.slice s' m d') ys ∧ Below w.heap.size w w' := by
  obtain ⟨W0, hW0, hC0, hD0, hB0, hS0⟩ := two_boxes w (.slice po n c) a b t (.slice so m d) 41
  have HC0 : Hid (C5 W0 w.heap.size (.slice po n c) a b t (.slice so m d)) := hC0
  have HD0 : Hid (C5 W0 (w.heap.size + 1) (.slice none 0 0) 0 0 0 (.slice none 0 0)) := hD0
  have HB0 : Hid (Below w.heap.size w W0) := hB0
  have HS0 : Hid (W0.heap.size = w.heap.size + 2) := hS0
  have q1 := each_c po n c xs W0 hx (by omega) (hr.later hB0) hz
  have HQ2 : Hid (∀ wx, Below w.heap.size w wx → Calls Try.prog 104 #[.slice so m d] wx fun e w' => ∃ a' c', e = .returned (.slice a' m c') ∧ Own w' wx.heap.size (.slice a' m c') ys ∧ Below wx.heap.size wx w') := fun wx h => cloneI_c so m d ys wx hy (by omega) (hs.later h) hnil
  obtain ⟨⟨c0, c1, c2, c3, c4⟩, f⟩ := hC0
  clear hr hs hz hnil hD0 hB0 hS0 f hx hy
  go_enter Try.func71, Try.ntmps71
  go_wp2_with fail
  refine q1.mono ?_
  clear q1
  rintro e w1 ⟨p1, k1, rfl, ho1, hb1⟩
  have hC1 := HC0.out.later hb1
  have hD1 := HD0.out.later hb1
  have HZ1 : Hid (w.heap.size + 2 ≤ w1.heap.size) := by show _ ≤ _; have := HS0.out; have := hb1.size; omega
  have HB1 : Hid (Below w.heap.size w w1) := HB0.out.trans (hb1.mono HB0.out.size)
  have HO1 : Hid (OwnS w1 (w.heap.size + 2) (.slice p1 n k1) xs) := by have h := ho1; rw [HS0.out] at h; exact h
  have HC1 : Hid (C5 w1 w.heap.size (.slice po n c) a b t (.slice so m d)) := hC1
  have HD1 : Hid (C5 w1 (w.heap.size + 1) (.slice none 0 0) 0 0 0 (.slice none 0 0)) := hD1
  clear hD1 ho1 hb1 c0 c1 c2 c3 c4 hW0 HC0 HD0 HB0
  obtain ⟨⟨c0, c1, c2, c3, c4⟩, f⟩ := hC1
  have f0 := f 0
  clear f
  -- behind the first store
  have HC2 : Hid (C5 (w1.setCell ⟨w.heap.size, 0, none⟩ (.slice p1 n k1)) w.heap.size (.slice p1 n k1) a b t (.slice so m d)) := HC1.out.set0 _
  have HD2 : Hid (C5 (w1.setCell ⟨w.heap.size, 0, none⟩ (.slice p1 n k1)) (w.heap.size + 1) (.slice none 0 0) 0 0 0 (.slice none 0 0)) := HD1.out.setOther (by omega) _
  have HB2 : Hid (Below w.heap.size w (w1.setCell ⟨w.heap.size, 0, none⟩ (.slice p1 n k1))) := HB1.out.setCell (p := ⟨w.heap.size, 0, none⟩) (Nat.le_refl _) _
  have HO2 : Hid (OwnS (w1.setCell ⟨w.heap.size, 0, none⟩ (.slice p1 n k1)) (w.heap.size + 2) (.slice p1 n k1) xs) := HO1.out.setBox (by omega) _
  have hZ2 : (w1.setCell ⟨w.heap.size, 0, none⟩ (.slice p1 n k1)).heap.size = w1.heap.size := by simp
  have q2 := HQ2.out _ HB2.out
  clear HQ2
  go_wp2_with fail
  refine q2.mono ?_
  clear q2
  rintro e w3 ⟨s3, d3, rfl, ho3, hb3⟩
  have hC3 := HC2.out.later hb3
  have hD3 := HD2.out.later hb3
  have HO3 : Hid (OwnS w3 (w.heap.size + 2) (.slice p1 n k1) xs) := HO2.out.later hb3
  have HP3 : Hid (Own w3 (w.heap.size + 2) (.slice s3 m d3) ys) := ho3.mono (by rw [hZ2]; exact HZ1.out)
  have HB3 : Hid (Below w.heap.size w w3) := HB2.out.trans (hb3.mono HB2.out.size)
  have HD3 : Hid (C5 w3 (w.heap.size + 1) (.slice none 0 0) 0 0 0 (.slice none 0 0)) := hD3
  clear ho3 hb3 HC2 HD2 HB2 HO2 HC1 HD1 HB1 HO1 c0 c1 c2 c3 c4 f0 hZ2
  have HE : Hid (C5 (w3.setCell ⟨w.heap.size, 4, none⟩ (.slice s3 m d3)) (w.heap.size + 1) (.slice none 0 0) 0 0 0 (.slice none 0 0)) := HD3.out.setOther (by omega) _
  have HO4 : Hid (OwnS (w3.setCell ⟨w.heap.size, 4, none⟩ (.slice s3 m d3)) (w.heap.size + 2) (.slice p1 n k1) xs) := HO3.out.setBox (by omega) _
  have HP4 : Hid (Own (w3.setCell ⟨w.heap.size, 4, none⟩ (.slice s3 m d3)) (w.heap.size + 2) (.slice s3 m d3) ys) := HP3.out.setBox (by omega) _
  have HB4 : Hid (Below w.heap.size w (w3.setCell ⟨w.heap.size, 4, none⟩ (.slice s3 m d3))) := HB3.out.setCell (p := ⟨w.heap.size, 4, none⟩) (Nat.le_refl _) _
  obtain ⟨⟨c0, c1, c2, c3, c4⟩, f⟩ := hC3
  have f4 := f 4
  obtain ⟨⟨e0, e1, e2, e3, e4⟩, ef⟩ := hD3
  have ef0 := ef 0; have ef1 := ef 1; have ef2 := ef 2; have ef3 := ef 3; have ef4 := ef 4
  clear f ef
  go_wp2
  refine bodyPost_ret (v := .agg #[.slice p1 n k1, .int .i64 a, .int .i64 b, .int .i64 t, .slice s3 m d3]) (by simp [results, Try.results71, go_sem, c0, c1, c2, c3, c4, e0, e1, e2, e3, e4]; try rfl) rfl ?_
  exact ⟨p1, k1, s3, d3, rfl, (HO4.out.putBox (r := w.heap.size + 1) (by omega) _ _ _ _ _).mono (by omega), (HP4.out.putBox (r := w.heap.size + 1) (by omega) _ _ _ _ _).mono (by omega), HB4.out.trans (below_grown (put5_grown _ _ _ _ _ _ _) (by omega) HB4.out.size)⟩

end Go.Proofs.Ytnppmgnfignbcaa
