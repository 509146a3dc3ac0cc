/- The contract of the specification's l1Tell: the limbs of a number, where it is good. -/
import Derived.Test.YtaedplfihjfchaaDoorSpecAdd2l
namespace Go.Proofs.YtaedplfihjfchaaDoor
set_option linter.unusedVariables false
set_option maxRecDepth 1000000
set_option linter.unusedSimpArgs false
open Go.RowKit

theorem goodB_of {xs : List Int} (h : Digs xs) (c : trim xs = xs) : goodB xs = decide (val xs < 79228162514264337593543950336) := by
  by_cases hl : xs.length ≤ 6
  · have h1 := val_lt6 h hl
    rw [decide_eq_true h1, goodB_iff]
    exact ⟨hl, h, (trim_last xs).1 c⟩
  · have h1 := val_ge6 h c (by omega)
    rw [decide_eq_false (by omega), Bool.eq_false_iff]
    intro e
    exact hl ((goodB_iff xs).1 e).1

theorem tellF_bad {n : Int} (h : ¬ n < 79228162514264337593543950336) : tellF n = ([], false) := by simp [tellF, h]
theorem tellF_good {n : Int} (h : n < 79228162514264337593543950336) : tellF n = (bigL n, true) := by simp [tellF, h]

theorem RdS.cells {w : World} {b o n c : Nat} {xs : List Int} (h : RdS w (.slice (some ⟨b, o, none⟩) n c) xs) : ∀ j u, (cellsI xs)[j]? = some u → w.cell? ((⟨b, o, none⟩ : Addr).add j) = some u := by
  intro j u hu
  have hj : j < xs.length := by
    have := (List.getElem?_eq_some_iff.1 hu).1
    simpa [cellsI] using this
  rw [getD_map_int xs j hj] at hu
  rcases h with ⟨h, _⟩ | ⟨b', o', c', h, h2, h3, h4⟩
  · simp at h
  · simp only [Value.slice.injEq, Option.some.injEq, Addr.mk.injEq, and_true] at h
    obtain ⟨⟨rfl, rfl⟩, _, _⟩ := h
    have := h4 j hj
    rw [← hu, Go.WideShapes.add_plain]
    exact this

theorem own_empty (w : World) (base : Nat) (hb : base ≤ w.heap.size) (cs : Array Value) (hc : cs = #[]) : (w.alloc (.cells cs 3)).ownsRow base 3 1 (.slice (some ⟨w.heap.size, 0, none⟩) 0 0) 0 [] := by
  subst hc
  have := World.ownsRow_lit (base := base) (e := 3) (size := 1) w #[] 0 hb (by unfold maxLen; omega) (by simp)
  simpa using this

theorem calloc {w : World} {a : Addr} {v : Value} {o : Obj} (h : w.cell? a = some v) : (w.alloc o).cell? a = some v := by
  rw [World.cell?_alloc_lt _ _ _ (World.block_lt_of_cell? w _ h)]; exact h

theorem below_three (w : World) (o o' o'' : Obj) : Below w.heap.size w (((w.alloc o).alloc o').alloc o'') := (below_two w o o').alloc (by simp; omega) o''

set_option maxHeartbeats 1000000 in
theorem l1Tell_at (b o n c : Nat) (xs : List Int) (w : World) (hn : n ≤ 1000000000) (hr : RdS w (.slice (some ⟨b, o, none⟩) n c) xs) (dx : Digs xs) (zs : List Int) (fb : Bool) (p : Nat) (hF : tellF (val xs) = (zs, fb)) (hp : zs.length = p) :
    Calls Tryd.prog 32 #[.slice (some ⟨b, o, none⟩) n c] w fun e w' => ∃ a' c', e = .returned (.tuple #[.agg #[.slice a' p c'], .bool fb]) ∧ Own w' w.heap.size (.slice a' p c') zs ∧ Below w.heap.size w w' := by
  obtain ⟨i0, hi, hz0, hz1, hz2⟩ := info_parts Tryd.infoInt
  have hx := hr.rd.1
  have hq : (trim xs).length ≤ n := by rw [← hx]; exact trim_length xs
  have HR : Hid (RdS w (.slice (some ⟨b, o, none⟩) n c) xs) := hr
  have HG : Hid (goodB (trim xs) = decide (val xs < 79228162514264337593543950336)) := by
    show goodB (trim xs) = _
    rw [goodB_of (trim_digs dx) (trim_trim xs), trim_val]
  have HT : Hid (trim xs = bigL (val xs)) := trim_bigL dx
  have HF : Hid (tellF (val xs) = (zs, fb)) := hF
  have HP : Hid (zs.length = p) := hp
  generalize hqd : (trim xs).length = q at hq
  have HQ : Hid ((trim xs).length = q) := hqd
  have HN : Hid (n ≤ 1000000000) := hn
  clear hr dx hF hp hx hqd
  go_enter Tryd.func32, Tryd.ntmps32
  go_wp2_with fail
  have hb0 : Below w.heap.size w ((w.alloc (Obj.cells #[Value.slice none 0 0] 25)).alloc (Obj.cells #[] 3)) := below_two w _ _
  refine (l1Trim_c _ n c xs _ (by omega) (HR.out.later hb0)).mono ?_
  rw [HQ.out]
  rintro e w1 ⟨rfl, hw, hr1⟩
  subst w1
  have hnews := hr1.cells
  have HB0 : Hid (Below w.heap.size w ((w.alloc (Obj.cells #[Value.slice none 0 0] 25)).alloc (Obj.cells #[] 3))) := hb0
  have hown := own_empty (w.alloc (Obj.cells #[Value.slice none 0 0] 25)) (w.heap.size + 1) (by simp) #[] rfl
  simp only [World.size_alloc] at hown
  have hql : (cellsI (trim xs)).length = q * 1 := by rw [cellsI_length, HQ.out]; omega
  have HNEWS : Hid (∀ j u, (cellsI (trim xs))[j]? = some u → ((w.alloc (Obj.cells #[Value.slice none 0 0] 25)).alloc (Obj.cells #[] 3)).cell? ((⟨b, o, none⟩ : Addr).add j) = some u) := hnews
  have HQL : Hid ((cellsI (trim xs)).length = q * 1) := hql
  clear hr1 hb0 hnews hql
  go_wp2_with (at_builtin; refine wpList_append_own _ rfl _ _ 23 rfl (w.heap.size + 1) 3 i0 (.int .i64 0) 1 8 Tryd.underlying23 hi hz0 hz1 hz2 rfl (by decide) _ _ _ rfl hown ⟨b, o, none⟩ q c (cellsI (trim xs)) rfl HQL.out HNEWS.out (cellsI_oneCell _) (by unfold maxLen; omega) (by omega) (by simp) ?_; intro v' w2 hown' hgrow _; have HO2 : Hid (Own w2 (w.heap.size + 1) v' (trim xs)) := (by show World.ownsRow _ _ _ _ _ _ _; rw [HQ.out]; simpa using hown'); have hg : ((w.alloc (Obj.cells #[Value.slice none 0 0] 25)).alloc (Obj.cells #[] 3)).grownBy w2 (some (w.heap.size + 1)) := hgrow; have HB2 : Hid (Below w.heap.size w w2) := HB0.out.grown hg (by simp; omega) (fun k e => by simp at e; omega); have cR : w2.cell? ⟨w.heap.size, 0, none⟩ = some (.slice none 0 0) := hg.cell (a := ⟨w.heap.size, 0, none⟩) (by simp) (by simp); have fR : w2.frozen? ⟨w.heap.size, 0, none⟩ = false := (by rw [World.frozen?_of_block (w := (w.alloc (Obj.cells #[Value.slice none 0 0] 25)).alloc (Obj.cells #[] 3)) (hg.block w.heap.size (by simp; omega) (by simp))]; simp); obtain ⟨a', c', hv⟩ := HO2.out.shape; rw [HQ.out] at hv; subst hv; have lR : w.heap.size < w2.heap.size := World.block_lt_of_cell? _ _ cR; clear hown hown' hgrow hg)
  cases hgb : decide (val xs < 79228162514264337593543950336)
  · have hlt : ¬ val xs < 79228162514264337593543950336 := of_decide_eq_false hgb
    have hf := HF.out
    rw [tellF_bad hlt] at hf
    simp only [Prod.mk.injEq] at hf
    obtain ⟨rfl, rfl⟩ := hf
    have hp0 := HP.out
    simp at hp0
    subst hp0
    have hba : Below w2.heap.size w2 (w2.alloc (Obj.cells #[Value.slice a' q c'] 25)) := (Below.refl _ _).alloc (Nat.le_refl _) _
    refine (specGood_c a' q c' (trim xs) _ HQ.out (by omega) (HO2.out.rd'.2.later hba)).mono ?_
    rw [HG.out, hgb]
    rintro e w3 ⟨rfl, hb⟩
    have hbk : Below w2.heap.size w2 w3 := hba.trans (hb.mono (by simp))
    have HB3 : Hid (Below w.heap.size w w3) := HB2.out.trans (hbk.mono HB2.out.size)
    have cR3 : w3.cell? ⟨w.heap.size, 0, none⟩ = some (.slice none 0 0) := cell_keep (S := 0) hbk cR
    have fR3 : w3.frozen? ⟨w.heap.size, 0, none⟩ = false := by rw [hbk.frozen (p := ⟨w.heap.size, 0, none⟩) lR]; exact fR
    clear hb hbk hba hgb cR fR
    go_wp2
    refine bodyPost_ret (v := .tuple #[.agg #[.slice none 0 0], .bool false]) (by simp [results, Tryd.results32, go_sem, cR3]) rfl ⟨none, 0, rfl, World.ownsRow_nil _ _ _ _, ?_⟩
    exact HB3.out.setCell (Nat.le_refl _) _
  · have hlt : val xs < 79228162514264337593543950336 := of_decide_eq_true hgb
    have hf := HF.out
    rw [tellF_good hlt] at hf
    simp only [Prod.mk.injEq] at hf
    obtain ⟨hzs, rfl⟩ := hf
    have hzt : trim xs = zs := by rw [HT.out, hzs]
    have hqp : q = p := by rw [← HQ.out, ← HP.out, hzt]
    subst hqp
    have HZ : Hid (trim xs = zs) := hzt
    clear hzs hzt
    have hba : Below w2.heap.size w2 (w2.alloc (Obj.cells #[Value.slice a' q c'] 25)) := (Below.refl _ _).alloc (Nat.le_refl _) _
    refine (specGood_c a' q c' (trim xs) _ HQ.out (by omega) (HO2.out.rd'.2.later hba)).mono ?_
    rw [HG.out, hgb]
    rintro e w3 ⟨rfl, hb⟩
    have hbk : Below w2.heap.size w2 w3 := hba.trans (hb.mono (by simp))
    have HB3 : Hid (Below w.heap.size w w3) := HB2.out.trans (hbk.mono HB2.out.size)
    have cR3 : w3.cell? ⟨w.heap.size, 0, none⟩ = some (.slice none 0 0) := cell_keep (S := 0) hbk cR
    have fR3 : w3.frozen? ⟨w.heap.size, 0, none⟩ = false := by rw [hbk.frozen (p := ⟨w.heap.size, 0, none⟩) lR]; exact fR
    have cB3 : w3.cell? ⟨w2.heap.size, 0, none⟩ = some (.slice a' q c') := cell_keep (S := 0) hb (by simp)
    have HO3 : Hid (Own w3 (w.heap.size + 1) (.slice a' q c') (trim xs)) := HO2.out.later hbk
    clear hb hbk hba hgb cR fR
    go_wp2
    refine bodyPost_ret (v := .tuple #[.agg #[.slice a' q c'], .bool true]) (by simp [results, Tryd.results32, go_sem, cR3]) rfl ⟨a', c', rfl, ?_, ?_⟩
    · have h1 : Own _ _ _ _ := ownsRow_setCell_below HO3.out (a := ⟨w.heap.size, 0, none⟩) (by simp) (.slice a' q c')
      rw [← HZ.out]
      exact h1.mono (by omega)
    · exact HB3.out.setCell (Nat.le_refl _) _

theorem tellF_zero : tellF 0 = ([], true) := by
  rw [tellF_good (by omega)]; rfl

set_option maxHeartbeats 1000000 in
theorem l1Tell_nil (w : World) : Calls Tryd.prog 32 #[.slice none 0 0] w fun e w' => ∃ a' c', e = .returned (.tuple #[.agg #[.slice a' 0 c'], .bool true]) ∧ Own w' w.heap.size (.slice a' 0 c') [] ∧ Below w.heap.size w w' := by
  obtain ⟨i0, hi, hz0, hz1, hz2⟩ := info_parts Tryd.infoInt
  go_enter Tryd.func32, Tryd.ntmps32
  go_wp2_with fail
  have HB0 : Hid (Below w.heap.size w ((w.alloc (Obj.cells #[Value.slice none 0 0] 25)).alloc (Obj.cells #[] 3))) := below_two w _ _
  refine (l1Trim_nil _).mono ?_
  rintro e w1 ⟨rfl, hw⟩
  subst w1
  have hown := own_empty (w.alloc (Obj.cells #[Value.slice none 0 0] 25)) (w.heap.size + 1) (by simp) #[] rfl
  simp only [World.size_alloc] at hown
  have HO : Hid (Own ((w.alloc (Obj.cells #[Value.slice none 0 0] 25)).alloc (Obj.cells #[] 3)) (w.heap.size + 1) (.slice (some ⟨w.heap.size + 1, 0, none⟩) 0 0) []) := hown
  go_wp2_with (at_builtin; refine wpList_append_own_none rfl _ _ 23 rfl (w.heap.size + 1) 3 i0 1 Tryd.underlying23 hi _ _ _ rfl hown rfl ?_)
  have hba : Below (w.heap.size + 2) ((w.alloc (Obj.cells #[Value.slice none 0 0] 25)).alloc (Obj.cells #[] 3)) (((w.alloc (Obj.cells #[Value.slice none 0 0] 25)).alloc (Obj.cells #[] 3)).alloc (Obj.cells #[Value.slice (some ⟨w.heap.size + 1, 0, none⟩) 0 0] 25)) := (Below.refl _ _).alloc (by simp) _
  refine (specGood_c _ 0 0 [] _ rfl (by omega) (Or.inl rfl)).mono ?_
  rw [goodB_nil]
  rintro e w3 ⟨rfl, hb⟩
  have HB3 : Hid (Below w.heap.size w w3) := ((HB0.out).trans (hba.mono (by omega))).trans (hb.mono (by simp; omega))
  have cR3 : w3.cell? ⟨w.heap.size, 0, none⟩ = some (.slice none 0 0) := cell_keep (S := 0) hb (calloc (calloc (by simp)))
  have fR3 : w3.frozen? ⟨w.heap.size, 0, none⟩ = false := by rw [hb.frozen (p := ⟨w.heap.size, 0, none⟩) (by simp; omega), World.frozen?_alloc_past _ _ _ (by simp; omega), World.frozen?_alloc_past _ _ _ (by simp)]; simp
  have cB3 : w3.cell? ⟨w.heap.size + 1 + 1, 0, none⟩ = some (.slice (some ⟨w.heap.size + 1, 0, none⟩) 0 0) := cell_keep (S := 0) hb (by rw [World.cell?_alloc_at _ _ _ _ (by simp)]; rfl)
  have HO3 : Hid (Own w3 (w.heap.size + 1) (.slice (some ⟨w.heap.size + 1, 0, none⟩) 0 0) []) := HO.out.later ((hba.mono (by simp)).trans (hb.mono (by simp)))
  clear hb hba hown HO
  go_wp2
  refine bodyPost_ret (v := .tuple #[.agg #[.slice (some ⟨w.heap.size + 1, 0, none⟩) 0 0], .bool true]) (by simp [results, Tryd.results32, go_sem, cR3]) rfl ⟨_, 0, rfl, ?_, ?_⟩
  · have h1 : Own _ _ _ _ := ownsRow_setCell_below HO3.out (a := ⟨w.heap.size, 0, none⟩) (by simp) (.slice (some ⟨w.heap.size + 1, 0, none⟩) 0 0)
    exact h1.mono (by omega)
  · exact HB3.out.setCell (Nat.le_refl _) _

theorem l1Tell_c (ao : Option Addr) (n c : Nat) (xs : List Int) (w : World) (hn : n ≤ 1000000000) (hr : RdS w (.slice ao n c) xs) (dx : Digs xs) (zs : List Int) (fb : Bool) (p : Nat) (hF : tellF (val xs) = (zs, fb)) (hp : zs.length = p) :
    Calls Tryd.prog 32 #[.slice ao n c] w fun e w' => ∃ a' c', e = .returned (.tuple #[.agg #[.slice a' p c'], .bool fb]) ∧ Own w' w.heap.size (.slice a' p c') zs ∧ Below w.heap.size w w' := by
  cases ao with
  | none =>
    have h1 : n = 0 ∧ c = 0 ∧ xs = [] := by
      rcases hr with ⟨h, rfl⟩ | ⟨b, o, c', h, _⟩
      · simp only [Value.slice.injEq] at h; exact ⟨h.2.1, h.2.2, rfl⟩
      · simp at h
    obtain ⟨rfl, rfl, rfl⟩ := h1
    rw [show val [] = 0 from rfl, tellF_zero] at hF
    simp only [Prod.mk.injEq] at hF
    obtain ⟨rfl, rfl⟩ := hF
    simp at hp
    subst hp
    exact l1Tell_nil w
  | some ad =>
    have h1 : ∃ b o, ad = ⟨b, o, none⟩ := by
      rcases hr with ⟨h, _⟩ | ⟨b, o, c', h, _⟩
      · simp at h
      · simp only [Value.slice.injEq, Option.some.injEq] at h; exact ⟨b, o, h.1⟩
    obtain ⟨b, o, rfl⟩ := h1
    exact l1Tell_at b o n c xs w hn hr dx zs fb p hF hp

end Go.Proofs.YtaedplfihjfchaaDoor
