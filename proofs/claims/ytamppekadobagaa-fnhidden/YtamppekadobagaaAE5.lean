/- Chapter 5: AddParts, the program's side. -/
import Derived.Test.YtamppekadobagaaAD5
namespace Go.Proofs.Ytamppekadobagaa
set_option linter.unusedVariables false
set_option linter.unusedSimpArgs false
open Go.RowKit

theorem partsB_good {fl : List (F × F)} (h : GoodP fl) : partsB (pIs fl) = true := by
  obtain ⟨h1, h2, h3, h4⟩ := h
  unfold partsB placesB
  rw [fsts_pIs, snds_pIs, vIs_allIn, vIs_length, List.length_map, decide_eq_true ⟨h3, h4⟩, Bool.and_true, Bool.true_and]
  refine xsB_true fun k hk => ?_
  rw [vIs_length, List.length_map] at hk
  have hk' : k < (fl.map Prod.fst).length := by simpa using hk
  unfold plAt
  rw [vIs_getD _ k hk']
  have hne : (fl.map Prod.fst).getD k 0 ≠ 0 := by
    have : (fl.map Prod.fst).getD k 0 ∈ fl.map Prod.fst := by simp only [List.getD, List.getElem?_eq_getElem hk', Option.getD_some]; exact List.getElem_mem _
    obtain ⟨p, hp, e⟩ := List.mem_map.1 this
    rw [← e]; exact h2 p hp
  have hv0 : vI ((fl.map Prod.fst).getD k 0) ≠ 0 := fun e => hne (vI_inj (by rw [e, vI_zero]))
  have hlo := vI_lo ((fl.map Prod.fst).getD k 0)
  have hhi := vI_hi ((fl.map Prod.fst).getD k 0)
  refine ⟨by omega, fun hm => ?_⟩
  rw [vIs, ← List.map_take] at hm
  obtain ⟨a, ha, e⟩ := List.mem_map.1 hm
  have e' := vI_inj e
  subst e'
  obtain ⟨j, hj, e2⟩ := List.getElem_of_mem ha
  have hjk : j < k := by rw [List.length_take] at hj; omega
  rw [List.getElem_take] at e2
  simp only [List.getD, List.getElem?_eq_getElem hk', Option.getD_some] at e2
  have := (List.getElem_inj h1).1 e2
  omega

set_option maxHeartbeats 4000000 in
theorem implAdd_yes (b o b' o' n c d : Nat) (fl gl : List (F × F)) (w : World) (hx : fl.length = n) (hy : gl.length = n) (hg : GoodP fl) (hg2 : GoodP gl) (he : fl.map Prod.fst = gl.map Prod.fst) (hr : RdP w (some ⟨b, o, none⟩) (pIs fl)) (hs : RdP w (some ⟨b', o', none⟩) (pIs gl)) :
    Calls Try.prog 24 #[.slice (some ⟨b, o, none⟩) n c, .slice (some ⟨b', o', none⟩) n d] w fun e w' => ∃ a' c', e = .returned (.tuple #[.slice a' n c', .bool true]) ∧ OwnP w' w.heap.size (.slice a' n c') (pIs (addP fl gl)) ∧ Below w.heap.size w w' := by
  obtain ⟨i0, hi, hz0, hz1, hz2⟩ := info_parts Try.infoPart
  have h1 : 1 ≤ n := by have := hg.2.2.1; omega
  have h8 : n ≤ 8 := by have := hg.2.2.2; omega
  have HX : Hid (fl.length = n) := hx
  have HY : Hid (gl.length = n) := hy
  have HXP : Hid ((pIs fl).length = n) := by show _ = _; rw [pIs_length]; exact hx
  have HYP : Hid ((pIs gl).length = n) := by show _ = _; rw [pIs_length]; exact hy
  have HR : Hid (RdP w (some ⟨b, o, none⟩) (pIs fl)) := hr
  have HS : Hid (RdP w (some ⟨b', o', none⟩) (pIs gl)) := hs
  have HE : Hid (fsts (pIs fl) = fsts (pIs gl)) := by show _ = _; rw [fsts_pIs, fsts_pIs, he]
  have q1 : ∀ wx, Below w.heap.size w wx → _ := fun wx (hb : Below w.heap.size w wx) => areParts_c (some ⟨b, o, none⟩) n c (pIs fl) wx HXP.out (by omega) (hr.later hb)
  rw [partsB_good hg] at q1
  have q2 : ∀ wx, Below w.heap.size w wx → _ := fun wx (hb : Below w.heap.size w wx) => areParts_c (some ⟨b', o', none⟩) n d (pIs gl) wx HYP.out (by omega) (hs.later hb)
  rw [partsB_good hg2] at q2
  clear hx hy hg hg2 he hr hs
  go_enter Try.func24, Try.ntmps24
  go_wp2_with fail
  refine (q1 _ (Below.refl _ _)).mono ?_
  clear q1
  rintro e w1 ⟨rfl, hb1⟩
  have HB1 : Hid (Below w.heap.size w w1) := hb1
  clear hb1
  go_wp2_with fail
  refine (q2 _ HB1.out).mono ?_
  clear q2
  rintro e w2 ⟨rfl, hb2⟩
  have HB2 : Hid (Below w.heap.size w w2) := HB1.out.trans (hb2.mono HB1.out.size)
  clear hb2
  go_wp2_with fail
  refine (placesIn_c (some ⟨b, o, none⟩) n c (pIs fl) w2 HXP.out (by omega) (HR.out.later HB2.out)).mono ?_
  rintro e w3 ⟨a3, c3, rfl, ho3, hb3⟩
  have HB3 : Hid (Below w.heap.size w w3) := HB2.out.trans (hb3.mono HB2.out.size)
  have O3 : Hid (Own w3 w2.heap.size (.slice a3 n c3) (fsts (pIs fl))) := ho3
  clear hb3 ho3
  go_wp2_with fail
  refine (placesIn_c (some ⟨b', o', none⟩) n d (pIs gl) w3 HYP.out (by omega) (HS.out.later HB3.out)).mono ?_
  rintro e w4 ⟨a4, c4, rfl, ho4, hb4⟩
  have HB4 : Hid (Below w.heap.size w w4) := HB3.out.trans (hb4.mono HB3.out.size)
  have O4 : Hid (Own w4 w3.heap.size (.slice a4 n c4) (fsts (pIs gl))) := ho4
  have O34 : Hid (Own w4 w2.heap.size (.slice a3 n c3) (fsts (pIs fl))) := O3.out.later hb4
  clear hb4 ho4 O3
  have hq := equalInt_c a3 a4 n n c3 c4 (fsts (pIs fl)) (fsts (pIs gl)) w4 O34.out.rd'.1 O4.out.rd'.1 (by omega) (by omega) (by omega) O34.out.rd'.2 O4.out.rd'.2
  rw [decide_eq_true HE.out] at hq
  go_wp2_with fail
  refine hq.mono ?_
  clear hq
  rintro e w5 ⟨rfl, hb5⟩
  have HB5 : Hid (Below w.heap.size w w5) := HB4.out.trans (hb5.mono HB4.out.size)
  clear hb5 O4 O34 HB1 HB2 HB3 HB4 HE
  go_wp2
  go_loopw [6, 27] (fun v i wr => ∃ k : Nat, k ≤ n ∧ i = .int .i64 k ∧ Hid (OwnP wr w.heap.size v (pIs ((addP fl gl).take k))) ∧ Hid (Below w.heap.size w wr)) (fun _ i _ => n - (intOf i).toNat)
  case atStart => exact ⟨0, Nat.zero_le _, rfl, World.ownsRow_nil _ _ _ _, HB5⟩
  case round =>
    clear HB5
    obtain ⟨k, hk, rfl, hO, hB⟩ := hrel
    by_cases hlt : k < n
    · obtain ⟨bb, oo, e1, hcx⟩ := HR.out.at HXP.out (by omega)
      cases e1
      obtain ⟨bb, oo, e1, hcy⟩ := HS.out.at HYP.out (by omega)
      cases e1
      have p1 := hcx k hlt
      have p2 := hcy k hlt
      rw [pIs_getD fl k (by rw [HX.out]; exact hlt)] at p1
      rw [pIs_getD gl k (by rw [HY.out]; exact hlt)] at p2
      have bx := World.block_lt_of_cell? w _ p1.1
      have bY := World.block_lt_of_cell? w _ p2.1
      have g1 : wr.cell? ⟨b, o + k * 2, none⟩ = some (.int .i64 (vI (fl.getD k (0, 0)).1)) := by rw [hB.out.cell (p := ⟨b, o + k * 2, none⟩) bx]; exact p1.1
      have g2 : wr.cell? ⟨b, o + k * 2 + 1, none⟩ = some (.int .i64 (vI (fl.getD k (0, 0)).2)) := by rw [hB.out.cell (p := ⟨b, o + k * 2 + 1, none⟩) bx]; exact p1.2
      have HT : Hid ((addP fl gl).take (k + 1) = (addP fl gl).take k ++ [((fl.getD k (0, 0)).1, (fl.getD k (0, 0)).2 + (gl.getD k (0, 0)).2)]) := addP_take (by rw [HX.out, HY.out]) (by rw [HX.out]; exact hlt)
      have hsum := vI_add (fl.getD k (0, 0)).2 (gl.getD k (0, 0)).2
      have hm1 := vI_mem (fl.getD k (0, 0)).2
      have hm2 := vI_mem (gl.getD k (0, 0)).2
      have hlen : (pIs ((addP fl gl).take k)).length = k := by rw [pIs_length, List.length_take, addP_length (by rw [HX.out, HY.out]), HX.out]; omega
      have hown : wr.ownsRow w.heap.size 46 2 u6 k (cellsP (pIs ((addP fl gl).take k))) := by have h := hO.out; unfold OwnP at h; rw [hlen] at h; exact h
      obtain ⟨V, hV⟩ : ∃ V, wr.alloc (.cells #[.int .i64 (vI (fl.getD k (0, 0)).1), .int .i64 (vI (fl.getD k (0, 0)).2)] 46) = V := ⟨_, rfl⟩
      have gV0 : V.cell? ⟨wr.heap.size, 0, none⟩ = some (.int .i64 (vI (fl.getD k (0, 0)).1)) := by rw [← hV]; simp
      have gV1 : V.cell? ⟨wr.heap.size, 1, none⟩ = some (.int .i64 (vI (fl.getD k (0, 0)).2)) := by rw [← hV]; simp
      have HBV : Hid (Below w.heap.size w V) := by rw [← hV]; exact hB.out.alloc hB.out.size _
      have gV2 : V.cell? ⟨b', o' + k * 2 + 1, none⟩ = some (.int .i64 (vI (gl.getD k (0, 0)).2)) := by rw [HBV.out.cell (p := ⟨b', o' + k * 2 + 1, none⟩) bY]; exact p2.2
      have HOV : Hid (V.ownsRow w.heap.size 46 2 u6 k (cellsP (pIs ((addP fl gl).take k)))) := by rw [← hV]; exact hown.alloc _
      have HI : Hid (∀ k', u6.ownBlock = some k' → w.heap.size ≤ k' ∧ k' < wr.heap.size) := World.ownsRow.lt hown
      have HVs : Hid (wr.heap.size < V.heap.size ∧ w.heap.size ≤ V.heap.size) := by rw [← hV]; exact ⟨by simp, by have := hB.out.size; simp; omega⟩
      have HG2 : Hid (w.cell? ⟨b', o' + k * 2 + 1, none⟩ = some (.int .i64 (vI (gl.getD k (0, 0)).2)) ∧ b' < w.heap.size) := ⟨p2.2, bY⟩
      have HL : Hid ((pIs ((addP fl gl).take k)).length = k) := hlen
      have HP : Hid (pI ((fl.getD k (0, 0)).1, (fl.getD k (0, 0)).2 + (gl.getD k (0, 0)).2) = (vI (fl.getD k (0, 0)).1, (IntKind.i64.wrap (vI (fl.getD k (0, 0)).2 + vI (gl.getD k (0, 0)).2)).tmod 1499)) := by show _ = _; rw [sum_wrap hm1 hm2, hsum]; rfl
      generalize vI (fl.getD k (0, 0)).1 = x at *
      generalize vI (fl.getD k (0, 0)).2 = y at *
      generalize vI (gl.getD k (0, 0)).2 = q at *
      have hk0 : (0 : Int) ≤ (k : Int) := by omega
      have hkl : (k : Int) < (n : Int) := by omega
      clear hlen hown p1 p2 bx bY hcx hcy hsum hO
      go_wp2_with fail
      clear hV g1 g2
      go_region_held3 (fun w' => w'.cell? ⟨wr.heap.size, 0, none⟩ = some (.int .i64 x) ∧ w'.cell? ⟨wr.heap.size, 1, none⟩ = some (.int .i64 y) ∧ w'.cell? ⟨b', o' + k * 2 + 1, none⟩ = some (.int .i64 q)) (first | exact ⟨gk0, gk1, gk2⟩ | go_keep) (first
        | (refine step_append_lies _ rfl _ _ 26 rfl w.heap.size 46 i0 (.agg #[.int .i64 0, .int .i64 0]) 2 16 Try.underlying26 hi hz0 hz1 hz2 rfl (by decide) _ _ _ rfl (HOV.out.alloc _).drew ⟨V.heap.size, 0, none⟩ 1 1 [.int .i64 x, .int .i64 ((IntKind.i64.wrap (y + q)).tmod 1499)] rfl rfl (cell_new2d _ _ _ _) (cellsP_one [(x, ((IntKind.i64.wrap (y + q)).tmod 1499))]) (by omega) (by unfold maxLen; omega) (by omega) (by have := HVs.out; simp; omega) _ rfl ?_; intro g cap w2 hown' hgrow _ _; have HO' : Hid (OwnP w2 w.heap.size (.slice (some ⟨g, 0, none⟩) (k + 1) cap) (pIs ((addP fl gl).take k) ++ [(x, ((IntKind.i64.wrap (y + q)).tmod 1499))])) := own_pushP (by rw [HL.out]; exact hown'); have HB' : Hid (Below w.heap.size w w2) := (HBV.out.alloc HVs.out.2 _).drew.grown hgrow (by have := HVs.out; simp; omega) (fun k' e => (HI.out k' e).1); have gk0 : w2.cell? ⟨wr.heap.size, 0, none⟩ = some (.int .i64 x) := (row_keep hgrow (heap_ad V _ HVs.out.1).1 (heap_ad V _ HVs.out.1).2 (fun k' e => (HI.out k' e).2) 0).trans gV0; have gk1 : w2.cell? ⟨wr.heap.size, 1, none⟩ = some (.int .i64 y) := (row_keep hgrow (heap_ad V _ HVs.out.1).1 (heap_ad V _ HVs.out.1).2 (fun k' e => (HI.out k' e).2) 1).trans gV1; have gk2 : w2.cell? ⟨b', o' + k * 2 + 1, none⟩ = some (.int .i64 q) := (HB'.out.cell (p := ⟨b', o' + k * 2 + 1, none⟩) HG2.out.2).trans HG2.out.1; clear hown' hgrow))
      all_goals go_wp2
      all_goals go_roundw
      case rel => exact ⟨k + 1, by omega, by go_num, by show OwnP _ _ _ _; rw [HT.out, pIs_app, HP.out]; exact HO'.out, HB'⟩
      case measure => simp [intOf]; omega
    · have he : (addP fl gl).take k = addP fl gl := List.take_of_length_le (by rw [addP_length (by rw [HX.out, HY.out]), HX.out]; omega)
      rw [he] at hO
      obtain ⟨a', c', hv⟩ := hO.out.shape
      rw [pIs_length, addP_length (by rw [HX.out, HY.out]), HX.out] at hv
      subst hv
      clear he
      go_wp2
      refine bodyPost_ret (v := .tuple #[.slice a' n c', .bool true]) (by simp [results, Try.results24, go_sem]; try rfl) rfl ?_
      exact ⟨a', c', rfl, hO.out, hB.out⟩

end Go.Proofs.Ytamppekadobagaa
