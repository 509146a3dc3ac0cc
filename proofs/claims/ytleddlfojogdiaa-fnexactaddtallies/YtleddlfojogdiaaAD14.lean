/- Chapter 14: AddTallies of both sides. -/
import Derived.Test.YtleddlfojogdiaaTF14
import Derived.Test.YtleddlfojogdiaaS14
import Derived.Deep.RegionWith
import Derived.Deep.RegionLaw
import Derived.Lib.SliceRun
import Derived.Test.YtleddlfojogdiaaRK14
import Derived.Laws.EntriesVeiled
import Derived.Lib.AppendZeros
namespace Go.Proofs.Ytleddlfojogdiaa
set_option linter.unusedVariables false
set_option maxRecDepth 1000000
set_option linter.unusedSimpArgs false
open Go.RowKit

theorem scalesOfBoth_c (ao : Option Addr) (n c : Nat) (bo : Option Addr) (m d : Nat) (w : World) :
    Calls Try.prog 78 #[.slice ao n c, .slice bo m d] w fun e w' => e = .returned (.agg #[.func (.func 111) #[] #[.pointer (some ⟨w.heap.size, 0, none⟩), .pointer (some ⟨w.heap.size + 1, 0, none⟩)], .func (.func 112) #[] #[.pointer (some ⟨w.heap.size, 0, none⟩), .pointer (some ⟨w.heap.size + 1, 0, none⟩)]]) ∧ w'.cell? ⟨w.heap.size, 0, none⟩ = some (.slice ao n c) ∧ w'.cell? ⟨w.heap.size + 1, 0, none⟩ = some (.slice bo m d) ∧ Below w.heap.size w w' := by
  have hV0 : X2 (((w.alloc (.cells #[.slice ao n c] 23)).alloc (.cells #[.slice bo m d] 23)).alloc (.cells #[.nilFunc, .nilFunc] 106)) (w.heap.size + 1 + 1) .nilFunc .nilFunc := x2_new _ _ _ _ _ (by simp)
  have hA : (((w.alloc (.cells #[.slice ao n c] 23)).alloc (.cells #[.slice bo m d] 23)).alloc (.cells #[.nilFunc, .nilFunc] 106)).cell? ⟨w.heap.size, 0, none⟩ = some (.slice ao n c) := cell_keep (S := 0) (balloc _ _) (cell_keep (S := 0) (balloc _ _) (by simp))
  have hB : (((w.alloc (.cells #[.slice ao n c] 23)).alloc (.cells #[.slice bo m d] 23)).alloc (.cells #[.nilFunc, .nilFunc] 106)).cell? ⟨w.heap.size + 1, 0, none⟩ = some (.slice bo m d) := cell_keep (S := 0) (balloc _ _) (by rw [show w.heap.size + 1 = (w.alloc (.cells #[.slice ao n c] 23)).heap.size by simp]; simp)
  have hL : Below w.heap.size w (((w.alloc (.cells #[.slice ao n c] 23)).alloc (.cells #[.slice bo m d] 23)).alloc (.cells #[.nilFunc, .nilFunc] 106)) := (((Below.refl _ w).alloc (Nat.le_refl _) _).alloc (by simp) _).alloc (by simp; omega) _
  obtain ⟨V, hV⟩ : ∃ V, ((w.alloc (.cells #[.slice ao n c] 23)).alloc (.cells #[.slice bo m d] 23)).alloc (.cells #[.nilFunc, .nilFunc] 106) = V := ⟨_, rfl⟩
  rw [hV] at hV0 hA hB hL
  have hF := (hV0.set0 (.func (.func 111) #[] #[.pointer (some ⟨w.heap.size, 0, none⟩), .pointer (some ⟨w.heap.size + 1, 0, none⟩)])).set1 (.func (.func 112) #[] #[.pointer (some ⟨w.heap.size, 0, none⟩), .pointer (some ⟨w.heap.size + 1, 0, none⟩)])
  have hA2 : ((V.setCell ⟨w.heap.size + 1 + 1, 0, none⟩ (.func (.func 111) #[] #[.pointer (some ⟨w.heap.size, 0, none⟩), .pointer (some ⟨w.heap.size + 1, 0, none⟩)])).setCell ⟨w.heap.size + 1 + 1, 1, none⟩ (.func (.func 112) #[] #[.pointer (some ⟨w.heap.size, 0, none⟩), .pointer (some ⟨w.heap.size + 1, 0, none⟩)])).cell? ⟨w.heap.size, 0, none⟩ = some (.slice ao n c) := by
    rw [World.cell?_setCell_other _ _ _ _ (by simp), World.cell?_setCell_other _ _ _ _ (by simp)]; exact hA
  have hB2 : ((V.setCell ⟨w.heap.size + 1 + 1, 0, none⟩ (.func (.func 111) #[] #[.pointer (some ⟨w.heap.size, 0, none⟩), .pointer (some ⟨w.heap.size + 1, 0, none⟩)])).setCell ⟨w.heap.size + 1 + 1, 1, none⟩ (.func (.func 112) #[] #[.pointer (some ⟨w.heap.size, 0, none⟩), .pointer (some ⟨w.heap.size + 1, 0, none⟩)])).cell? ⟨w.heap.size + 1, 0, none⟩ = some (.slice bo m d) := by
    rw [World.cell?_setCell_other _ _ _ _ (by simp), World.cell?_setCell_other _ _ _ _ (by simp)]; exact hB
  have hL2 : Below w.heap.size w ((V.setCell ⟨w.heap.size + 1 + 1, 0, none⟩ (.func (.func 111) #[] #[.pointer (some ⟨w.heap.size, 0, none⟩), .pointer (some ⟨w.heap.size + 1, 0, none⟩)])).setCell ⟨w.heap.size + 1 + 1, 1, none⟩ (.func (.func 112) #[] #[.pointer (some ⟨w.heap.size, 0, none⟩), .pointer (some ⟨w.heap.size + 1, 0, none⟩)])) := (hL.setCell (by show w.heap.size ≤ w.heap.size + 1 + 1; omega) _).setCell (by show w.heap.size ≤ w.heap.size + 1 + 1; omega) _
  obtain ⟨⟨y0, y1⟩, yf⟩ := hV0
  have yf0 := yf 0
  have yf1 := yf 1
  obtain ⟨FW, hFW⟩ : ∃ F, (V.setCell ⟨w.heap.size + 1 + 1, 0, none⟩ (.func (.func 111) #[] #[.pointer (some ⟨w.heap.size, 0, none⟩), .pointer (some ⟨w.heap.size + 1, 0, none⟩)])).setCell ⟨w.heap.size + 1 + 1, 1, none⟩ (.func (.func 112) #[] #[.pointer (some ⟨w.heap.size, 0, none⟩), .pointer (some ⟨w.heap.size + 1, 0, none⟩)]) = F := ⟨_, rfl⟩
  rw [hFW] at hF hA2 hB2 hL2
  have HR : Hid (FW.cell? ⟨w.heap.size, 0, none⟩ = some (.slice ao n c) ∧ FW.cell? ⟨w.heap.size + 1, 0, none⟩ = some (.slice bo m d) ∧ Below w.heap.size w FW) := ⟨hA2, hB2, hL2⟩
  obtain ⟨⟨t0, t1⟩, _⟩ := hF
  clear hA hB hL hA2 hB2 hL2 yf
  go_enter Try.func78, Try.ntmps78
  go_wp2
  refine bodyPost_ret (v := .agg #[.func (.func 111) #[] #[.pointer (some ⟨w.heap.size, 0, none⟩), .pointer (some ⟨w.heap.size + 1, 0, none⟩)], .func (.func 112) #[] #[.pointer (some ⟨w.heap.size, 0, none⟩), .pointer (some ⟨w.heap.size + 1, 0, none⟩)]]) (by simp [results, Try.results78, go_sem, t0, t1]; try rfl) rfl ?_
  exact ⟨rfl, HR.out⟩

/-- Both lists good, of one length. -/
theorem addOk_is {xs ys : List Ta} (h : addOk xs ys = true) : tasB xs = true ∧ tasB ys = true ∧ xs.length = ys.length := by
  unfold addOk at h
  rw [Bool.and_eq_true, Bool.and_eq_true, decide_eq_true_eq] at h
  exact h

theorem addV_no {xs ys : List Ta} (h : ¬ (tasB xs = true ∧ tasB ys = true ∧ xs.length = ys.length)) : addB xs ys = false ∧ addV xs ys = [] := by
  have e1 : addB xs ys = false := by
    rw [Bool.eq_false_iff]
    intro g
    unfold addB at g
    rw [Bool.and_eq_true] at g
    exact h (addOk_is g.1)
  exact ⟨e1, by unfold addV; rw [e1]; rfl⟩

theorem addV_yes {xs ys : List Ta} (h1 : tasB xs = true) (h2 : tasB ys = true) (h3 : xs.length = ys.length) : addB xs ys = tasB (addT xs ys) ∧ addV xs ys = (if tasB (addT xs ys) = true then addT xs ys else []) := by
  have e : addOk xs ys = true := by unfold addOk; rw [h1, h2, decide_eq_true h3]; rfl
  have e1 : addB xs ys = tasB (addT xs ys) := by unfold addB; rw [e, Bool.true_and]
  exact ⟨e1, by unfold addV; rw [e1]⟩

theorem tas_bounds {xs : List Ta} (h : tasB xs = true) {k : Nat} (hk : k < xs.length) : (0 ≤ (xs.getD k (0, 0, 0)).2.1 ∧ (xs.getD k (0, 0, 0)).2.1 ≤ 100) ∧ 0 ≤ (xs.getD k (0, 0, 0)).2.2 ∧ (xs.getD k (0, 0, 0)).2.2 ≤ 100 := by
  have := taAt_iff.1 (tasAt_at (tasB_all h).2.1 hk)
  omega

set_option maxHeartbeats 4000000 in
theorem implAdd_no (ao : Option Addr) (n c : Nat) (bo : Option Addr) (m d : Nat) (xs ys : List Ta) (w : World) (hx : xs.length = n) (hy : ys.length = m) (hn : n ≤ 17592186044416) (hm : m ≤ 17592186044416) (hr : RdU w ao xs) (hs : RdU w bo ys) (q : Nat) (hq : (addV xs ys).length = q) (h : ¬ (tasB xs = true ∧ tasB ys = true ∧ xs.length = ys.length)) :
    Calls Try.prog 38 #[.slice ao n c, .slice bo m d] w fun e w' => ∃ a' c', e = .returned (.tuple #[.slice a' q c', .bool (addB xs ys)]) ∧ OwnU w' w.heap.size (.slice a' q c') (addV xs ys) ∧ Below w.heap.size w w' := by
  obtain ⟨e1, e2⟩ := addV_no h
  rw [e2] at hq ⊢
  obtain rfl : q = 0 := hq.symm
  rw [e1]
  have q1 := implGoodT_c ao n c xs w hx hn hr
  have q2 := fun wx hb => implGoodT_c bo m d ys wx hy hm (RdU.later hs hb)
  have hno : tasB xs = false ∨ (tasB xs = true ∧ (tasB ys = false ∨ (tasB ys = true ∧ ((n : Int) != (m : Int)) = true))) := by
    cases ht : tasB xs
    · exact Or.inl rfl
    · refine Or.inr ⟨rfl, ?_⟩
      cases hu : tasB ys
      · exact Or.inl rfl
      · refine Or.inr ⟨rfl, ?_⟩
        rw [bne_iff_ne]
        intro e
        exact h ⟨ht, hu, by omega⟩
  have HQ2 : Hid (∀ wx, Below w.heap.size w wx → Calls Try.prog 19 #[.slice bo m d] wx fun e w' => e = .returned (.bool (tasB ys)) ∧ Below wx.heap.size wx w') := q2
  clear q2 e1 e2 hq hx hy hr hs h
  generalize tasB ys = fc at HQ2 hno
  generalize tasB xs = fb at q1 hno
  rcases hno with rfl | ⟨rfl, rfl | ⟨rfl, hnm⟩⟩
  · go_enter Try.func38, Try.ntmps38
    go_wp2_with fail
    refine q1.mono ?_
    clear q1
    rintro e w1 ⟨rfl, hb⟩
    have HB1 : Hid (Below w.heap.size w w1) := hb
    clear hb
    go_wp2
    refine bodyPost_ret (v := .tuple #[.slice none 0 0, .bool false]) (by simp [results, Try.results38, go_sem]; try rfl) rfl ?_
    exact ⟨none, 0, rfl, own_nilU _ _, HB1.out⟩
  · go_enter Try.func38, Try.ntmps38
    go_wp2_with fail
    refine q1.mono ?_
    clear q1
    rintro e w1 ⟨rfl, hb⟩
    have HB1 : Hid (Below w.heap.size w w1) := hb
    clear hb
    go_wp2_with fail
    refine (HQ2.out _ HB1.out).mono ?_
    rintro e w2 ⟨rfl, hb⟩
    have HB2 : Hid (Below w.heap.size w w2) := HB1.out.trans (hb.mono HB1.out.size)
    clear hb
    go_wp2
    refine bodyPost_ret (v := .tuple #[.slice none 0 0, .bool false]) (by simp [results, Try.results38, go_sem]; try rfl) rfl ?_
    exact ⟨none, 0, rfl, own_nilU _ _, HB2.out⟩
  · go_enter Try.func38, Try.ntmps38
    go_wp2_with fail
    refine q1.mono ?_
    clear q1
    rintro e w1 ⟨rfl, hb⟩
    have HB1 : Hid (Below w.heap.size w w1) := hb
    clear hb
    go_wp2_with fail
    refine (HQ2.out _ HB1.out).mono ?_
    rintro e w2 ⟨rfl, hb⟩
    have HB2 : Hid (Below w.heap.size w w2) := HB1.out.trans (hb.mono HB1.out.size)
    clear hb
    go_wp2
    refine bodyPost_ret (v := .tuple #[.slice none 0 0, .bool false]) (by simp [results, Try.results38, go_sem]; try rfl) rfl ?_
    exact ⟨none, 0, rfl, own_nilU _ _, HB2.out⟩

set_option maxHeartbeats 4000000 in
theorem specAdd_no (ao : Option Addr) (n c : Nat) (bo : Option Addr) (m d : Nat) (xs ys : List Ta) (w : World) (hx : xs.length = n) (hy : ys.length = m) (hn : n ≤ 17592186044416) (hm : m ≤ 17592186044416) (hr : RdU w ao xs) (hs : RdU w bo ys) (q : Nat) (hq : (addV xs ys).length = q) (h : ¬ (tasB xs = true ∧ tasB ys = true ∧ xs.length = ys.length)) :
    Calls Try.prog 37 #[.slice ao n c, .slice bo m d] w fun e w' => ∃ a' c', e = .returned (.tuple #[.slice a' q c', .bool (addB xs ys)]) ∧ OwnU w' w.heap.size (.slice a' q c') (addV xs ys) ∧ Below w.heap.size w w' := by
  obtain ⟨e1, e2⟩ := addV_no h
  rw [e2] at hq ⊢
  obtain rfl : q = 0 := hq.symm
  rw [e1]
  have q1 := specGoodT_c ao n c xs w hx hn hr
  have q2 := fun wx hb => specGoodT_c bo m d ys wx hy hm (RdU.later hs hb)
  have hno : tasB xs = false ∨ (tasB xs = true ∧ (tasB ys = false ∨ (tasB ys = true ∧ ((n : Int) != (m : Int)) = true))) := by
    cases ht : tasB xs
    · exact Or.inl rfl
    · refine Or.inr ⟨rfl, ?_⟩
      cases hu : tasB ys
      · exact Or.inl rfl
      · refine Or.inr ⟨rfl, ?_⟩
        rw [bne_iff_ne]
        intro e
        exact h ⟨ht, hu, by omega⟩
  have HQ2 : Hid (∀ wx, Below w.heap.size w wx → Calls Try.prog 36 #[.slice bo m d] wx fun e w' => e = .returned (.bool (tasB ys)) ∧ Below wx.heap.size wx w') := q2
  clear q2 e1 e2 hq hx hy hr hs h
  generalize tasB ys = fc at HQ2 hno
  generalize tasB xs = fb at q1 hno
  rcases hno with rfl | ⟨rfl, rfl | ⟨rfl, hnm⟩⟩
  · go_enter Try.func37, Try.ntmps37
    go_wp2_with fail
    refine q1.mono ?_
    clear q1
    rintro e w1 ⟨rfl, hb⟩
    have HB1 : Hid (Below w.heap.size w w1) := hb
    clear hb
    go_wp2
    refine bodyPost_ret (v := .tuple #[.slice none 0 0, .bool false]) (by simp [results, Try.results37, go_sem]; try rfl) rfl ?_
    exact ⟨none, 0, rfl, own_nilU _ _, HB1.out⟩
  · go_enter Try.func37, Try.ntmps37
    go_wp2_with fail
    refine q1.mono ?_
    clear q1
    rintro e w1 ⟨rfl, hb⟩
    have HB1 : Hid (Below w.heap.size w w1) := hb
    clear hb
    go_wp2_with fail
    refine (HQ2.out _ HB1.out).mono ?_
    rintro e w2 ⟨rfl, hb⟩
    have HB2 : Hid (Below w.heap.size w w2) := HB1.out.trans (hb.mono HB1.out.size)
    clear hb
    go_wp2
    refine bodyPost_ret (v := .tuple #[.slice none 0 0, .bool false]) (by simp [results, Try.results37, go_sem]; try rfl) rfl ?_
    exact ⟨none, 0, rfl, own_nilU _ _, HB2.out⟩
  · go_enter Try.func37, Try.ntmps37
    go_wp2_with fail
    refine q1.mono ?_
    clear q1
    rintro e w1 ⟨rfl, hb⟩
    have HB1 : Hid (Below w.heap.size w w1) := hb
    clear hb
    go_wp2_with fail
    refine (HQ2.out _ HB1.out).mono ?_
    rintro e w2 ⟨rfl, hb⟩
    have HB2 : Hid (Below w.heap.size w w2) := HB1.out.trans (hb.mono HB1.out.size)
    clear hb
    go_wp2
    refine bodyPost_ret (v := .tuple #[.slice none 0 0, .bool false]) (by simp [results, Try.results37, go_sem]; try rfl) rfl ?_
    exact ⟨none, 0, rfl, own_nilU _ _, HB2.out⟩

set_option maxHeartbeats 4000000 in
theorem implAdd_c (ao : Option Addr) (n c : Nat) (bo : Option Addr) (m d : Nat) (xs ys : List Ta) (w : World) (hx : xs.length = n) (hy : ys.length = m) (hn : n ≤ 17592186044416) (hm : m ≤ 17592186044416) (hr : RdU w ao xs) (hs : RdU w bo ys) (q : Nat) (hq : (addV xs ys).length = q) :
    Calls Try.prog 38 #[.slice ao n c, .slice bo m d] w fun e w' => ∃ a' c', e = .returned (.tuple #[.slice a' q c', .bool (addB xs ys)]) ∧ OwnU w' w.heap.size (.slice a' q c') (addV xs ys) ∧ Below w.heap.size w w' := by
  by_cases h : tasB xs = true ∧ tasB ys = true ∧ xs.length = ys.length
  case neg => exact implAdd_no ao n c bo m d xs ys w hx hy hn hm hr hs q hq h
  obtain ⟨h1, h2, h3⟩ := h
  obtain ⟨e1, e2⟩ := addV_yes h1 h2 h3
  have hmn : m = n := by omega
  subst hmn
  obtain ⟨_, _, hn1, hn2⟩ := tasB_all h1
  rw [hx] at hn1 hn2
  have q1 := fun wx hb => implGoodT_c ao m c xs wx hx hn (hr.later hb)
  have q2 := fun wx hb => implGoodT_c bo m d ys wx hy hm (hs.later hb)
  rw [h1] at q1
  rw [h2] at q2
  rw [e2] at hq ⊢
  rw [e1]
  have eT : addT xs ys = talT m (fun i => (xs.getD i (0, 0, 0)).2.1 + (ys.getD i (0, 0, 0)).2.1) (fun i => (xs.getD i (0, 0, 0)).2.2 + (ys.getD i (0, 0, 0)).2.2) := by rw [← hx]; rfl
  obtain ⟨vg, hvg⟩ : ∃ vg : Nat → Int, vg = (fun i => (xs.getD i (0, 0, 0)).2.1 + (ys.getD i (0, 0, 0)).2.1) := ⟨_, rfl⟩
  obtain ⟨vb, hvb⟩ : ∃ vb : Nat → Int, vb = (fun i => (xs.getD i (0, 0, 0)).2.2 + (ys.getD i (0, 0, 0)).2.2) := ⟨_, rfl⟩
  rw [← hvg, ← hvb] at eT
  have HVG : Hid (∀ i, vg i = (xs.getD i (0, 0, 0)).2.1 + (ys.getD i (0, 0, 0)).2.1) := fun i => by rw [hvg]
  have HVB : Hid (∀ i, vb i = (xs.getD i (0, 0, 0)).2.2 + (ys.getD i (0, 0, 0)).2.2) := fun i => by rw [hvb]
  have hq' : (talV m vg vb).length = q := by unfold talV; rw [← eT]; exact hq
  have eV : (if tasB (addT xs ys) = true then addT xs ys else []) = talV m vg vb := by unfold talV; rw [← eT]
  rw [eV, eT]
  have HQ : Hid ((talV m vg vb).length = q) := hq'
  obtain ⟨lv, hlv⟩ : ∃ lv, talV m vg vb = lv := ⟨_, rfl⟩
  obtain ⟨fb, hfb⟩ : ∃ fb, tasB (talT m vg vb) = fb := ⟨_, rfl⟩
  have HLV : Hid (talV m vg vb = lv) := hlv
  have HFB : Hid (tasB (talT m vg vb) = fb) := hfb
  rw [hlv, hfb]
  have HR : Hid (RdU w ao xs) := hr
  have HS : Hid (RdU w bo ys) := hs
  have HX : Hid (xs.length = m) := hx
  have HY : Hid (ys.length = m) := hy
  have HT1 : Hid (tasB xs = true) := h1
  have HT2 : Hid (tasB ys = true) := h2
  have HQ1 : Hid (∀ wx, Below w.heap.size w wx → Calls Try.prog 19 #[.slice ao m c] wx fun e w' => e = .returned (.bool true) ∧ Below wx.heap.size wx w') := q1
  have HQ2 : Hid (∀ wx, Below w.heap.size w wx → Calls Try.prog 19 #[.slice bo m d] wx fun e w' => e = .returned (.bool true) ∧ Below wx.heap.size wx w') := q2
  have hmm : ((m : Int) != (m : Int)) = false := by simp
  clear hx hy hr hs h1 h2 h3 e1 e2 eT q1 q2 hq hq' eV hvg hvb hlv hfb
  go_enter Try.func38, Try.ntmps38
  go_wp2_with fail
  refine (HQ1.out _ (Below.refl _ _)).mono ?_
  rintro e w1 ⟨rfl, hb⟩
  have HB1 : Hid (Below w.heap.size w w1) := hb
  clear hb
  go_wp2_with fail
  refine (HQ2.out _ HB1.out).mono ?_
  rintro e w2 ⟨rfl, hb⟩
  have HB2 : Hid (Below w.heap.size w w2) := HB1.out.trans (hb.mono HB1.out.size)
  clear hb
  go_wp2_with fail
  refine (scalesOfBoth_c ao m c bo m d _).mono ?_
  rintro e w3 ⟨rfl, hca, hcb, hb⟩
  have HB3 : Hid (Below w.heap.size w w3) := HB2.out.trans (hb.mono HB2.out.size)
  have HCA : Hid (w3.cell? ⟨w2.heap.size, 0, none⟩ = some (.slice ao m c)) := hca
  have HCB : Hid (w3.cell? ⟨w2.heap.size + 1, 0, none⟩ = some (.slice bo m d)) := hcb
  clear hb hca hcb
  have q3 := talliesBoth_c w2.heap.size (w2.heap.size + 1) m vg vb w3 hn2
    (fun k wx hk hb => by rw [HVG.out]; exact scalesOfBoth1_c _ _ ao m c bo d xs ys k wx hk HX.out HY.out hn2 (by rw [hb.cell (World.block_lt_of_cell? w3 _ HCA.out)]; exact HCA.out) (by rw [hb.cell (World.block_lt_of_cell? w3 _ HCB.out)]; exact HCB.out) (HR.out.later (HB3.out.trans (hb.mono HB3.out.size))) (HS.out.later (HB3.out.trans (hb.mono HB3.out.size))) (tas_bounds HT1.out (by rw [HX.out]; exact hk)).1 (tas_bounds HT2.out (by rw [HY.out]; exact hk)).1)
    (fun k wx hk hb => by rw [HVB.out]; exact scalesOfBoth2_c _ _ ao m c bo d xs ys k wx hk HX.out HY.out hn2 (by rw [hb.cell (World.block_lt_of_cell? w3 _ HCA.out)]; exact HCA.out) (by rw [hb.cell (World.block_lt_of_cell? w3 _ HCB.out)]; exact HCB.out) (HR.out.later (HB3.out.trans (hb.mono HB3.out.size))) (HS.out.later (HB3.out.trans (hb.mono HB3.out.size))) (tas_bounds HT1.out (by rw [HX.out]; exact hk)).2 (tas_bounds HT2.out (by rw [HY.out]; exact hk)).2) q HQ.out
  rw [HLV.out, HFB.out] at q3
  go_wp2_with fail
  refine q3.mono ?_
  clear q3
  rintro e w4 ⟨a4, c4, rfl, ho, hb⟩
  have HO5 : Hid (OwnU w4 w.heap.size (.slice a4 q c4) lv) := ho.mono HB3.out.size
  have HB4 : Hid (Below w.heap.size w w4) := HB3.out.trans (hb.mono HB3.out.size)
  clear ho hb
  go_wp2
  refine bodyPost_ret (v := .tuple #[.slice a4 q c4, .bool fb]) (by simp [results, Try.results38, go_sem]; try rfl) rfl ?_
  exact ⟨a4, c4, rfl, HO5.out, HB4.out⟩

set_option maxHeartbeats 8000000 in
theorem specAdd_c (ao : Option Addr) (n c : Nat) (bo : Option Addr) (m d : Nat) (xs ys : List Ta) (w : World) (hx : xs.length = n) (hy : ys.length = m) (hn : n ≤ 17592186044416) (hm : m ≤ 17592186044416) (hr : RdU w ao xs) (hs : RdU w bo ys) (q : Nat) (hq : (addV xs ys).length = q) :
    Calls Try.prog 37 #[.slice ao n c, .slice bo m d] w fun e w' => ∃ a' c', e = .returned (.tuple #[.slice a' q c', .bool (addB xs ys)]) ∧ OwnU w' w.heap.size (.slice a' q c') (addV xs ys) ∧ Below w.heap.size w w' := by
  by_cases h : tasB xs = true ∧ tasB ys = true ∧ xs.length = ys.length
  case neg => exact specAdd_no ao n c bo m d xs ys w hx hy hn hm hr hs q hq h
  obtain ⟨h1, h2, h3⟩ := h
  obtain ⟨e1, e2⟩ := addV_yes h1 h2 h3
  have hmn : m = n := by omega
  subst hmn
  obtain ⟨_, _, hn1, hn2⟩ := tasB_all h1
  rw [hx] at hn1 hn2
  have q1 := fun wx hb => specGoodT_c ao m c xs wx hx hn (hr.later hb)
  have q2 := fun wx hb => specGoodT_c bo m d ys wx hy hm (hs.later hb)
  rw [h1] at q1
  rw [h2] at q2
  rw [e2] at hq ⊢
  rw [e1]
  have eT : addT xs ys = talT m (fun i => (xs.getD i (0, 0, 0)).2.1 + (ys.getD i (0, 0, 0)).2.1) (fun i => (xs.getD i (0, 0, 0)).2.2 + (ys.getD i (0, 0, 0)).2.2) := by rw [← hx]; rfl
  have hq' : (talV m (fun i => (xs.getD i (0, 0, 0)).2.1 + (ys.getD i (0, 0, 0)).2.1) (fun i => (xs.getD i (0, 0, 0)).2.2 + (ys.getD i (0, 0, 0)).2.2)).length = q := by unfold talV; rw [← eT]; exact hq
  have eV : (if tasB (addT xs ys) = true then addT xs ys else []) = talV m (fun i => (xs.getD i (0, 0, 0)).2.1 + (ys.getD i (0, 0, 0)).2.1) (fun i => (xs.getD i (0, 0, 0)).2.2 + (ys.getD i (0, 0, 0)).2.2) := by unfold talV; rw [← eT]
  rw [eV, eT]
  have HR : Hid (RdU w ao xs) := hr
  have HS : Hid (RdU w bo ys) := hs
  have HX : Hid (xs.length = m) := hx
  have HY : Hid (ys.length = m) := hy
  have HT1 : Hid (tasB xs = true) := h1
  have HT2 : Hid (tasB ys = true) := h2
  have HQ1 : Hid (∀ wx, Below w.heap.size w wx → Calls Try.prog 36 #[.slice ao m c] wx fun e w' => e = .returned (.bool true) ∧ Below wx.heap.size wx w') := q1
  have HQ2 : Hid (∀ wx, Below w.heap.size w wx → Calls Try.prog 36 #[.slice bo m d] wx fun e w' => e = .returned (.bool true) ∧ Below wx.heap.size wx w') := q2
  obtain ⟨vg, hvg⟩ : ∃ vg : Nat → Int, vg = (fun i => (xs.getD i (0, 0, 0)).2.1 + (ys.getD i (0, 0, 0)).2.1) := ⟨_, rfl⟩
  obtain ⟨vb, hvb⟩ : ∃ vb : Nat → Int, vb = (fun i => (xs.getD i (0, 0, 0)).2.2 + (ys.getD i (0, 0, 0)).2.2) := ⟨_, rfl⟩
  rw [← hvg, ← hvb] at hq' ⊢
  have HVG : Hid (∀ i, vg i = (xs.getD i (0, 0, 0)).2.1 + (ys.getD i (0, 0, 0)).2.1) := fun i => by rw [hvg]
  have HVB : Hid (∀ i, vb i = (xs.getD i (0, 0, 0)).2.2 + (ys.getD i (0, 0, 0)).2.2) := fun i => by rw [hvb]
  have HQ : Hid ((talV m vg vb).length = q) := hq'
  have hmm : ((m : Int) != (m : Int)) = false := by simp
  clear hx hy hr hs h1 h2 h3 e1 e2 eT q1 q2 hq hq' eV hvg hvb
  go_enter Try.func37, Try.ntmps37
  go_wp2_with fail
  refine (HQ1.out _ (Below.refl _ _)).mono ?_
  rintro e w1 ⟨rfl, hb⟩
  have HB1 : Hid (Below w.heap.size w w1) := hb
  clear hb
  go_wp2_with fail
  refine (HQ2.out _ HB1.out).mono ?_
  rintro e w2 ⟨rfl, hb⟩
  have HB2 : Hid (Below w.heap.size w w2) := HB1.out.trans (hb.mono HB1.out.size)
  clear hb HB1
  go_wp2
  go_loopw [6, 26] (fun v iv wq => ∃ k : Nat, k ≤ m ∧ iv = .int .i64 k ∧ Hid (OwnU wq w2.heap.size v (talT k vg vb)) ∧ Hid (Below w2.heap.size w2 wq)) (fun _ iv _ => m - (intOf iv).toNat)
  case atStart => exact ⟨0, Nat.zero_le _, rfl, own_nilU _ _, Below.refl _ _⟩
  case round =>
    obtain ⟨k, hk, rfl, hO, hB⟩ := hrel
    by_cases hlt : k < m
    · have hk1 : (k : Int) < (m : Int) := by omega
      have hk0 : (0 : Int) ≤ (k : Int) := by omega
      have HBw := HB2.out.trans (hB.out.mono HB2.out.size)
      obtain ⟨b1, o1, hoa, g0, g1, g2⟩ := (HR.out.later HBw).get (k := k) (by rw [HX.out]; exact hlt)
      obtain ⟨b2, o2, hob, f0, f1, f2⟩ := (HS.out.later HBw).get (k := k) (by rw [HY.out]; exact hlt)
      subst hoa hob
      have bx := tas_bounds HT1.out (k := k) (by rw [HX.out]; exact hlt)
      have by2 := tas_bounds HT2.out (k := k) (by rw [HY.out]; exact hlt)
      have HS1 : Hid (talT (k + 1) vg vb = talT k vg vb ++ [((k : Int), (xs.getD k (0, 0, 0)).2.1 + (ys.getD k (0, 0, 0)).2.1, (xs.getD k (0, 0, 0)).2.2 + (ys.getD k (0, 0, 0)).2.2)]) := by show _ = _; rw [talT_succ, HVG.out, HVB.out]
      have HLn : Hid ((talT k vg vb).length = k) := talT_length k vg vb
      generalize (xs.getD k (0, 0, 0)).1 = x0 at g0
      generalize (xs.getD k (0, 0, 0)).2.1 = x1 at g1 bx HS1
      generalize (xs.getD k (0, 0, 0)).2.2 = x2 at g2 bx HS1
      generalize (ys.getD k (0, 0, 0)).2.1 = y1 at f1 by2 HS1
      generalize (ys.getD k (0, 0, 0)).2.2 = y2 at f2 by2 HS1
      generalize talT k vg vb = out at hO HS1 HLn
      have hs1 : IntKind.i64.wrap (x1 + y1) = x1 + y1 := by simp [IntKind.wrap, IntKind.bits, IntKind.signed]; omega
      have hs2 : IntKind.i64.wrap (x2 + y2) = x2 + y2 := by simp [IntKind.wrap, IntKind.bits, IntKind.signed]; omega
      obtain ⟨a9, c9, hv⟩ := hO.out.shape
      rw [HLn.out] at hv
      subst hv
      have bX := balloc wr (.cells #[.int .i64 x0, .int .i64 x1, .int .i64 x2] 38)
      have aX := x3_new wr (.int .i64 x0) (.int .i64 x1) (.int .i64 x2) 38 wr.heap.size rfl
      have oX := hO.out.later bX
      have BX := hB.out.trans (bX.mono hB.out.size)
      have k1 := cell_keep (S := 0) bX f1
      have k2 := cell_keep (S := 0) bX f2
      obtain ⟨V, hV⟩ : ∃ V, wr.alloc (.cells #[.int .i64 x0, .int .i64 x1, .int .i64 x2] 38) = V := ⟨_, rfl⟩
      rw [hV] at bX aX oX BX k1 k2
      have bA : Below V.heap.size V (V.alloc (.cells #[.int .i64 (k : Int), .int .i64 (x1 + y1), .int .i64 (x2 + y2)] 38)).drew := (balloc V _).drew
      obtain ⟨v5, w5, r1, o5, g5, b5⟩ := appendU_run (V.alloc (.cells #[.int .i64 (k : Int), .int .i64 (x1 + y1), .int .i64 (x2 + y2)] 38)).drew w2.heap.size (.slice a9 k c9) out [((k : Int), x1 + y1, x2 + y2)] (some ⟨V.heap.size, 0, none⟩) 1 1 (oX.later bA) ((litU V _ _ _).later (Below.refl _ _).drew) rfl (fun h => by cases h) (by rw [HLn.out]; omega) (by have := BX.size; have := bA.size; omega)
      have HO5 : Hid (OwnU w5 w2.heap.size v5 (out ++ [((k : Int), x1 + y1, x2 + y2)])) := o5
      have HB5 : Hid (Below w2.heap.size w2 w5) := (BX.trans (bA.mono BX.size)).trans b5
      have m1 := cell_keep (S := 0) (balloc V (.cells #[.int .i64 (k : Int), .int .i64 (x1 + y1), .int .i64 (x2 + y2)] 38)) k1
      have m2 := cell_keep (S := 0) (balloc V (.cells #[.int .i64 (k : Int), .int .i64 (x1 + y1), .int .i64 (x2 + y2)] 38)) k2
      have aY := aX.later (balloc V (.cells #[.int .i64 (k : Int), .int .i64 (x1 + y1), .int .i64 (x2 + y2)] 38))
      obtain ⟨⟨n0, n1, n2⟩, _⟩ := aX
      obtain ⟨⟨p0, p1, p2⟩, _⟩ := aY
      clear bX oX BX bA o5 g5 b5 hO hB bx by2 f0 HBw
      go_wp2_with fail
      clear hV g0 g1 g2 f1 f2
      go_region_law (first
        | (refine step_append_run rfl (.tmp 31) (.tmp 50) 23 23 rfl (.slice a9 k c9) (.slice (some ⟨V.heap.size, 0, none⟩) 1 1) (by simp [Act.eval, Act.put]) (by simp [Act.eval, Act.put]) (r1 _) ?_))
      all_goals go_wp2
      all_goals go_roundw
      all_goals first | exact ⟨k + 1, by omega, by go_num, by show OwnU _ _ _ _; rw [HS1.out]; exact HO5.out, HB5⟩ | (simp [intOf]; omega)
    · obtain rfl : m = k := by omega
      have hx : ¬ (m : Int) < (m : Int) := by omega
      have HLn : Hid ((talT m vg vb).length = m) := talT_length m vg vb
      obtain ⟨a9, c9, hv⟩ := hO.out.shape
      rw [HLn.out] at hv
      subst hv
      have q3 := specGoodT_c a9 m c9 (talT m vg vb) wr HLn.out (by omega) hO.out.rd'.2
      have HV : Hid (tasB (talT m vg vb) = true → talV m vg vb = talT m vg vb) := fun h => by unfold talV; rw [if_pos h]
      have HN : Hid (tasB (talT m vg vb) = false → talV m vg vb = []) := fun h => by unfold talV; rw [h]; rfl
      obtain ⟨fb, hfb⟩ : ∃ fb, tasB (talT m vg vb) = fb := ⟨_, rfl⟩
      have HFB : Hid (tasB (talT m vg vb) = fb) := hfb
      rw [hfb] at q3
      clear hfb
      cases fb
      · have e2 := HN.out HFB.out
        have hq0 : q = 0 := by have := HQ.out; rw [e2] at this; exact this.symm
        have HE2 : Hid (talV m vg vb = []) := e2
        subst hq0
        clear e2
        go_wp2_with fail
        refine q3.mono ?_
        clear q3
        rintro e w3 ⟨rfl, hb⟩
        go_wp2
        refine bodyPost_ret (v := .tuple #[.slice none 0 0, .bool false]) (by simp [results, Try.results37, go_sem]; try rfl) rfl ?_
        exact ⟨none, 0, by rw [HFB.out], by rw [HE2.out]; exact own_nilU _ _, (HB2.out.trans (hB.out.mono HB2.out.size)).trans (hb.mono (by have := HB2.out.size; have := hB.out.size; omega))⟩
      · have e2 := HV.out HFB.out
        have hq0 : q = m := by have := HQ.out; rw [e2, HLn.out] at this; exact this.symm
        have HE2 : Hid (talV m vg vb = talT m vg vb) := e2
        subst hq0
        clear e2
        go_wp2_with fail
        refine q3.mono ?_
        clear q3
        rintro e w3 ⟨rfl, hb⟩
        go_wp2
        refine bodyPost_ret (v := .tuple #[.slice a9 q c9, .bool true]) (by simp [results, Try.results37, go_sem]; try rfl) rfl ?_
        exact ⟨a9, c9, by rw [HFB.out], by rw [HE2.out]; exact (hO.out.later hb).mono HB2.out.size, (HB2.out.trans (hB.out.mono HB2.out.size)).trans (hb.mono (by have := HB2.out.size; have := hB.out.size; omega))⟩

end Go.Proofs.Ytleddlfojogdiaa
