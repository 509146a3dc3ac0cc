/- Chapter 5: AddParts, the specification's side. -/
import Derived.Test.YtamppekadobagaaAE5
namespace Go.Proofs.Ytamppekadobagaa
set_option linter.unusedVariables false
set_option linter.unusedSimpArgs false
open Go.RowKit

theorem fst_take {l : List (F × F)} {k : Nat} (h : k < l.length) : (l.map Prod.fst).take (k + 1) = (l.map Prod.fst).take k ++ [(l.getD k (0, 0)).1] := by
  rw [List.take_succ_eq_append_getElem (by simpa using h)]
  simp [List.getD, h]

set_option maxHeartbeats 4000000 in
theorem specAdd_yes (b o b' o' n c d : Nat) (fl gl : List (F × F)) (w : World) (hx : fl.length = n) (hy : gl.length = n) (hg : GoodP fl) (hg2 : GoodP gl) (he : fl.map Prod.fst = gl.map Prod.fst) (hr : RdP w (some ⟨b, o, none⟩) (pIs fl)) (hs : RdP w (some ⟨b', o', none⟩) (pIs gl)) :
    Calls Try.prog 25 #[.slice (some ⟨b, o, none⟩) n c, .slice (some ⟨b', o', none⟩) n d] w fun e w' => ∃ a' c', e = .returned (.tuple #[.slice a' n c', .bool true]) ∧ OwnP w' w.heap.size (.slice a' n c') (pIs (addP fl gl)) ∧ Below w.heap.size w w' := by
  obtain ⟨i0, hi, hz0, hz1, hz2⟩ := info_parts Try.infoPart
  have h1 : 1 ≤ n := by have := hg.2.2.1; omega
  have h8 : n ≤ 8 := by have := hg.2.2.2; omega
  have HX : Hid (fl.length = n) := hx
  have HY : Hid (gl.length = n) := hy
  have HXP : Hid ((pIs fl).length = n) := by show _ = _; rw [pIs_length]; exact hx
  have HYP : Hid ((pIs gl).length = n) := by show _ = _; rw [pIs_length]; exact hy
  have HR : Hid (RdP w (some ⟨b, o, none⟩) (pIs fl)) := hr
  have HS : Hid (RdP w (some ⟨b', o', none⟩) (pIs gl)) := hs
  have HE : Hid (fl.map Prod.fst = gl.map Prod.fst) := he
  have q1 : ∀ wx, Below w.heap.size w wx → _ := fun wx (hb : Below w.heap.size w wx) => l5Parts_c (some ⟨b, o, none⟩) n c (pIs fl) wx HXP.out (by omega) (hr.later hb)
  rw [partsB_good hg] at q1
  have q2 : ∀ wx, Below w.heap.size w wx → _ := fun wx (hb : Below w.heap.size w wx) => l5Parts_c (some ⟨b', o', none⟩) n d (pIs gl) wx HYP.out (by omega) (hs.later hb)
  rw [partsB_good hg2] at q2
  have hnn : ((n : Int) != (n : Int)) = false := by simp
  clear hx hy hg hg2 he hr hs
  go_enter Try.func25, Try.ntmps25
  go_wp2_with fail
  refine (q1 _ (Below.refl _ _)).mono ?_
  clear q1
  rintro e w1 ⟨rfl, hb1⟩
  have HB1 : Hid (Below w.heap.size w w1) := hb1
  clear hb1
  go_wp2_with fail
  refine (q2 _ HB1.out).mono ?_
  clear q2
  rintro e w2 ⟨rfl, hb2⟩
  have HB5 : Hid (Below w.heap.size w w2) := HB1.out.trans (hb2.mono HB1.out.size)
  clear hb2 HB1
  go_wp2
  go_loopw [6, 26] (fun v i wr => ∃ k : Nat, k ≤ n ∧ i = .int .i64 k ∧ Hid ((fl.map Prod.fst).take k = (gl.map Prod.fst).take k) ∧ Hid (OwnP wr w.heap.size v (pIs ((addP fl gl).take k))) ∧ Hid (Below w.heap.size w wr)) (fun _ i _ => n - (intOf i).toNat)
  case atStart => exact ⟨0, Nat.zero_le _, rfl, rfl, World.ownsRow_nil _ _ _ _, HB5⟩
  case round =>
    clear HB5
    obtain ⟨k, hk, rfl, hpre, hO, hB⟩ := hrel
    by_cases hlt : k < n
    · obtain ⟨bb, oo, e1, hcx⟩ := HR.out.at HXP.out (by omega)
      cases e1
      obtain ⟨bb, oo, e1, hcy⟩ := HS.out.at HYP.out (by omega)
      cases e1
      have p1 := hcx k hlt
      have p2 := hcy k hlt
      rw [pIs_getD fl k (by rw [HX.out]; exact hlt)] at p1
      rw [pIs_getD gl k (by rw [HY.out]; exact hlt)] at p2
      have bx := World.block_lt_of_cell? w _ p1.1
      have bY := World.block_lt_of_cell? w _ p2.1
      have g1 : wr.cell? ⟨b, o + k * 2, none⟩ = some (.int .i64 (vI (fl.getD k (0, 0)).1)) := by rw [hB.out.cell (p := ⟨b, o + k * 2, none⟩) bx]; exact p1.1
      have g2 : wr.cell? ⟨b, o + k * 2 + 1, none⟩ = some (.int .i64 (vI (fl.getD k (0, 0)).2)) := by rw [hB.out.cell (p := ⟨b, o + k * 2 + 1, none⟩) bx]; exact p1.2
      have g9 : w.cell? ⟨b', o' + k * 2, none⟩ = some (.int .i64 (vI (gl.getD k (0, 0)).1)) := p2.1
      have HT : Hid ((addP fl gl).take (k + 1) = (addP fl gl).take k ++ [((fl.getD k (0, 0)).1, (fl.getD k (0, 0)).2 + (gl.getD k (0, 0)).2)]) := addP_take (by rw [HX.out, HY.out]) (by rw [HX.out]; exact hlt)
      have hsum := vI_add (fl.getD k (0, 0)).2 (gl.getD k (0, 0)).2
      have hm1 := vI_mem (fl.getD k (0, 0)).2
      have hm2 := vI_mem (gl.getD k (0, 0)).2
      have hlen : (pIs ((addP fl gl).take k)).length = k := by rw [pIs_length, List.length_take, addP_length (by rw [HX.out, HY.out]), HX.out]; omega
      have hown : wr.ownsRow w.heap.size 46 2 u6 k (cellsP (pIs ((addP fl gl).take k))) := by have h := hO.out; unfold OwnP at h; rw [hlen] at h; exact h
      obtain ⟨V, hV⟩ : ∃ V, wr.alloc (.cells #[.int .i64 (vI (fl.getD k (0, 0)).1), .int .i64 (vI (fl.getD k (0, 0)).2)] 46) = V := ⟨_, rfl⟩
      have gV0 : V.cell? ⟨wr.heap.size, 0, none⟩ = some (.int .i64 (vI (fl.getD k (0, 0)).1)) := by rw [← hV]; simp
      have gV1 : V.cell? ⟨wr.heap.size, 1, none⟩ = some (.int .i64 (vI (fl.getD k (0, 0)).2)) := by rw [← hV]; simp
      have HBV : Hid (Below w.heap.size w V) := by rw [← hV]; exact hB.out.alloc hB.out.size _
      have gV2 : V.cell? ⟨b', o' + k * 2 + 1, none⟩ = some (.int .i64 (vI (gl.getD k (0, 0)).2)) := by rw [HBV.out.cell (p := ⟨b', o' + k * 2 + 1, none⟩) bY]; exact p2.2
      have gV3 : V.cell? ⟨b', o' + k * 2, none⟩ = some (.int .i64 (vI (gl.getD k (0, 0)).1)) := by rw [HBV.out.cell (p := ⟨b', o' + k * 2, none⟩) bY]; exact g9
      have HOV : Hid (V.ownsRow w.heap.size 46 2 u6 k (cellsP (pIs ((addP fl gl).take k)))) := by rw [← hV]; exact hown.alloc _
      have HI : Hid (∀ k', u6.ownBlock = some k' → w.heap.size ≤ k' ∧ k' < wr.heap.size) := World.ownsRow.lt hown
      have HVs : Hid (wr.heap.size < V.heap.size ∧ w.heap.size ≤ V.heap.size) := by rw [← hV]; exact ⟨by simp, by have := hB.out.size; simp; omega⟩
      have HG2 : Hid (w.cell? ⟨b', o' + k * 2 + 1, none⟩ = some (.int .i64 (vI (gl.getD k (0, 0)).2)) ∧ b' < w.heap.size) := ⟨p2.2, bY⟩
      have HL : Hid ((pIs ((addP fl gl).take k)).length = k) := hlen
      have HP : Hid (pI ((fl.getD k (0, 0)).1, (fl.getD k (0, 0)).2 + (gl.getD k (0, 0)).2) = (vI (fl.getD k (0, 0)).1, (IntKind.i64.wrap (vI (fl.getD k (0, 0)).2 + vI (gl.getD k (0, 0)).2)).tmod 1499)) := by show _ = _; rw [sum_wrap hm1 hm2, hsum]; rfl
      have HFX : Hid ((fl.map Prod.fst).take (k + 1) = (fl.map Prod.fst).take k ++ [(fl.getD k (0, 0)).1]) := fst_take (by rw [HX.out]; exact hlt)
      have HGX : Hid ((gl.map Prod.fst).take (k + 1) = (gl.map Prod.fst).take k ++ [(gl.getD k (0, 0)).1]) := fst_take (by rw [HY.out]; exact hlt)
      have HVI : Hid (vI (gl.getD k (0, 0)).1 = vI (fl.getD k (0, 0)).1 ↔ (gl.getD k (0, 0)).1 = (fl.getD k (0, 0)).1) := ⟨vI_inj, fun e => by rw [e]⟩
      generalize hgx : vI (gl.getD k (0, 0)).1 = x2 at *
      generalize vI (fl.getD k (0, 0)).1 = x at *
      clear hgx g9
      generalize vI (fl.getD k (0, 0)).2 = y at *
      generalize vI (gl.getD k (0, 0)).2 = q at *
      have hk0 : (0 : Int) ≤ (k : Int) := by omega
      have hkl : (k : Int) < (n : Int) := by omega
      clear hlen hown p1 p2 bx bY hcx hcy hsum hO
      have hxe : x2 = x := HVI.out.2 (by
        have h := congrArg (fun l : List F => l.take (k + 1)) HE.out
        rw [HFX.out, HGX.out, hpre.out] at h
        exact (List.cons.inj (List.append_cancel_left h)).1.symm)
      have HPN : Hid ((fl.map Prod.fst).take (k + 1) = (gl.map Prod.fst).take (k + 1)) := by show _ = _; rw [HE.out]
      have hxx : (x2 != x) = false := by rw [hxe]; simp
      go_wp2_with fail
      clear hV g1 g2
      go_quiet (fail)
      obtain ⟨V2, hV2⟩ : ∃ V2, V.drewN nq = V2 := ⟨_, rfl⟩
      have gW0 : V2.cell? ⟨wr.heap.size, 0, none⟩ = some (.int .i64 x) := by rw [← hV2]; exact gV0
      have gW1 : V2.cell? ⟨wr.heap.size, 1, none⟩ = some (.int .i64 y) := by rw [← hV2]; exact gV1
      have gW2 : V2.cell? ⟨b', o' + k * 2 + 1, none⟩ = some (.int .i64 q) := by rw [← hV2]; exact gV2
      have HBV2 : Hid (Below w.heap.size w V2) := by rw [← hV2]; exact below_drewN HBV.out _
      have HOV2 : Hid (V2.ownsRow w.heap.size 46 2 u6 k (cellsP (pIs ((addP fl gl).take k)))) := by rw [← hV2]; exact HOV.out
      have HVs2 : Hid (wr.heap.size < V2.heap.size ∧ w.heap.size ≤ V2.heap.size) := by rw [← hV2]; exact HVs.out
      rw [hV2]
      clear hV2 gV0 gV1 gV2 gV3 HBV HOV HVs
      go_wp2_with fail
      go_region_held3 (fun w' => w'.cell? ⟨wr.heap.size, 0, none⟩ = some (.int .i64 x) ∧ w'.cell? ⟨wr.heap.size, 1, none⟩ = some (.int .i64 y) ∧ w'.cell? ⟨b', o' + k * 2 + 1, none⟩ = some (.int .i64 q)) (first | exact ⟨gk0, gk1, gk2⟩ | go_keep) (first
        | (refine step_append_lies _ rfl _ _ 26 rfl w.heap.size 46 i0 (.agg #[.int .i64 0, .int .i64 0]) 2 16 Try.underlying26 hi hz0 hz1 hz2 rfl (by decide) _ _ _ rfl (HOV2.out.alloc _).drew ⟨V2.heap.size, 0, none⟩ 1 1 [.int .i64 x, .int .i64 ((IntKind.i64.wrap (y + q)).tmod 1499)] rfl rfl (cell_new2d _ _ _ _) (cellsP_one [(x, ((IntKind.i64.wrap (y + q)).tmod 1499))]) (by omega) (by unfold maxLen; omega) (by omega) (by have := HVs2.out; simp; omega) _ rfl ?_; intro g cap w2 hown' hgrow _ _; have HO' : Hid (OwnP w2 w.heap.size (.slice (some ⟨g, 0, none⟩) (k + 1) cap) (pIs ((addP fl gl).take k) ++ [(x, ((IntKind.i64.wrap (y + q)).tmod 1499))])) := own_pushP (by rw [HL.out]; exact hown'); have HB' : Hid (Below w.heap.size w w2) := (HBV2.out.alloc HVs2.out.2 _).drew.grown hgrow (by have := HVs2.out; simp; omega) (fun k' e => (HI.out k' e).1); have gk0 : w2.cell? ⟨wr.heap.size, 0, none⟩ = some (.int .i64 x) := (row_keep hgrow (heap_ad V2 _ HVs2.out.1).1 (heap_ad V2 _ HVs2.out.1).2 (fun k' e => (HI.out k' e).2) 0).trans gW0; have gk1 : w2.cell? ⟨wr.heap.size, 1, none⟩ = some (.int .i64 y) := (row_keep hgrow (heap_ad V2 _ HVs2.out.1).1 (heap_ad V2 _ HVs2.out.1).2 (fun k' e => (HI.out k' e).2) 1).trans gW1; have gk2 : w2.cell? ⟨b', o' + k * 2 + 1, none⟩ = some (.int .i64 q) := (HB'.out.cell (p := ⟨b', o' + k * 2 + 1, none⟩) HG2.out.2).trans HG2.out.1; clear hown' hgrow))
      all_goals go_wp2
      all_goals go_roundw
      case rel => exact ⟨k + 1, by omega, by go_num, HPN, by show OwnP _ _ _ _; rw [HT.out, pIs_app, HP.out]; exact HO'.out, HB'⟩
      case measure => simp [intOf]; omega
    · have he : (addP fl gl).take k = addP fl gl := List.take_of_length_le (by rw [addP_length (by rw [HX.out, HY.out]), HX.out]; omega)
      rw [he] at hO
      obtain ⟨a', c', hv⟩ := hO.out.shape
      rw [pIs_length, addP_length (by rw [HX.out, HY.out]), HX.out] at hv
      subst hv
      clear he
      go_wp2
      refine bodyPost_ret (v := .tuple #[.slice a' n c', .bool true]) (by simp [results, Try.results25, go_sem]; try rfl) rfl ?_
      exact ⟨a', c', rfl, hO.out, hB.out⟩

set_option maxHeartbeats 4000000 in
theorem specAdd_part (b o b' o' n c d : Nat) (fl gl : List (F × F)) (w : World) (hx : fl.length = n) (hy : gl.length = n) (hg : GoodP fl) (hg2 : GoodP gl) (he : fl.map Prod.fst ≠ gl.map Prod.fst) (hr : RdP w (some ⟨b, o, none⟩) (pIs fl)) (hs : RdP w (some ⟨b', o', none⟩) (pIs gl)) :
    Calls Try.prog 25 #[.slice (some ⟨b, o, none⟩) n c, .slice (some ⟨b', o', none⟩) n d] w fun e w' => e = .returned (.tuple #[.slice none 0 0, .bool false]) ∧ Below w.heap.size w w' := by
  obtain ⟨i0, hi, hz0, hz1, hz2⟩ := info_parts Try.infoPart
  have h1 : 1 ≤ n := by have := hg.2.2.1; omega
  have h8 : n ≤ 8 := by have := hg.2.2.2; omega
  have HX : Hid (fl.length = n) := hx
  have HY : Hid (gl.length = n) := hy
  have HXP : Hid ((pIs fl).length = n) := by show _ = _; rw [pIs_length]; exact hx
  have HYP : Hid ((pIs gl).length = n) := by show _ = _; rw [pIs_length]; exact hy
  have HR : Hid (RdP w (some ⟨b, o, none⟩) (pIs fl)) := hr
  have HS : Hid (RdP w (some ⟨b', o', none⟩) (pIs gl)) := hs
  have HE : Hid (fl.map Prod.fst ≠ gl.map Prod.fst) := he
  have q1 : ∀ wx, Below w.heap.size w wx → _ := fun wx (hb : Below w.heap.size w wx) => l5Parts_c (some ⟨b, o, none⟩) n c (pIs fl) wx HXP.out (by omega) (hr.later hb)
  rw [partsB_good hg] at q1
  have q2 : ∀ wx, Below w.heap.size w wx → _ := fun wx (hb : Below w.heap.size w wx) => l5Parts_c (some ⟨b', o', none⟩) n d (pIs gl) wx HYP.out (by omega) (hs.later hb)
  rw [partsB_good hg2] at q2
  have hnn : ((n : Int) != (n : Int)) = false := by simp
  clear hx hy hg hg2 he hr hs
  go_enter Try.func25, Try.ntmps25
  go_wp2_with fail
  refine (q1 _ (Below.refl _ _)).mono ?_
  clear q1
  rintro e w1 ⟨rfl, hb1⟩
  have HB1 : Hid (Below w.heap.size w w1) := hb1
  clear hb1
  go_wp2_with fail
  refine (q2 _ HB1.out).mono ?_
  clear q2
  rintro e w2 ⟨rfl, hb2⟩
  have HB5 : Hid (Below w.heap.size w w2) := HB1.out.trans (hb2.mono HB1.out.size)
  clear hb2 HB1
  go_wp2
  go_loopw [6, 26] (fun v i wr => ∃ k : Nat, k ≤ n ∧ i = .int .i64 k ∧ Hid ((fl.map Prod.fst).take k = (gl.map Prod.fst).take k) ∧ Hid (OwnP wr w.heap.size v (pIs ((addP fl gl).take k))) ∧ Hid (Below w.heap.size w wr)) (fun _ i _ => n - (intOf i).toNat)
  case atStart => exact ⟨0, Nat.zero_le _, rfl, rfl, World.ownsRow_nil _ _ _ _, HB5⟩
  case round =>
    clear HB5
    obtain ⟨k, hk, rfl, hpre, hO, hB⟩ := hrel
    by_cases hlt : k < n
    · obtain ⟨bb, oo, e1, hcx⟩ := HR.out.at HXP.out (by omega)
      cases e1
      obtain ⟨bb, oo, e1, hcy⟩ := HS.out.at HYP.out (by omega)
      cases e1
      have p1 := hcx k hlt
      have p2 := hcy k hlt
      rw [pIs_getD fl k (by rw [HX.out]; exact hlt)] at p1
      rw [pIs_getD gl k (by rw [HY.out]; exact hlt)] at p2
      have bx := World.block_lt_of_cell? w _ p1.1
      have bY := World.block_lt_of_cell? w _ p2.1
      have g1 : wr.cell? ⟨b, o + k * 2, none⟩ = some (.int .i64 (vI (fl.getD k (0, 0)).1)) := by rw [hB.out.cell (p := ⟨b, o + k * 2, none⟩) bx]; exact p1.1
      have g2 : wr.cell? ⟨b, o + k * 2 + 1, none⟩ = some (.int .i64 (vI (fl.getD k (0, 0)).2)) := by rw [hB.out.cell (p := ⟨b, o + k * 2 + 1, none⟩) bx]; exact p1.2
      have g9 : w.cell? ⟨b', o' + k * 2, none⟩ = some (.int .i64 (vI (gl.getD k (0, 0)).1)) := p2.1
      have HT : Hid ((addP fl gl).take (k + 1) = (addP fl gl).take k ++ [((fl.getD k (0, 0)).1, (fl.getD k (0, 0)).2 + (gl.getD k (0, 0)).2)]) := addP_take (by rw [HX.out, HY.out]) (by rw [HX.out]; exact hlt)
      have hsum := vI_add (fl.getD k (0, 0)).2 (gl.getD k (0, 0)).2
      have hm1 := vI_mem (fl.getD k (0, 0)).2
      have hm2 := vI_mem (gl.getD k (0, 0)).2
      have hlen : (pIs ((addP fl gl).take k)).length = k := by rw [pIs_length, List.length_take, addP_length (by rw [HX.out, HY.out]), HX.out]; omega
      have hown : wr.ownsRow w.heap.size 46 2 u6 k (cellsP (pIs ((addP fl gl).take k))) := by have h := hO.out; unfold OwnP at h; rw [hlen] at h; exact h
      obtain ⟨V, hV⟩ : ∃ V, wr.alloc (.cells #[.int .i64 (vI (fl.getD k (0, 0)).1), .int .i64 (vI (fl.getD k (0, 0)).2)] 46) = V := ⟨_, rfl⟩
      have gV0 : V.cell? ⟨wr.heap.size, 0, none⟩ = some (.int .i64 (vI (fl.getD k (0, 0)).1)) := by rw [← hV]; simp
      have gV1 : V.cell? ⟨wr.heap.size, 1, none⟩ = some (.int .i64 (vI (fl.getD k (0, 0)).2)) := by rw [← hV]; simp
      have HBV : Hid (Below w.heap.size w V) := by rw [← hV]; exact hB.out.alloc hB.out.size _
      have gV2 : V.cell? ⟨b', o' + k * 2 + 1, none⟩ = some (.int .i64 (vI (gl.getD k (0, 0)).2)) := by rw [HBV.out.cell (p := ⟨b', o' + k * 2 + 1, none⟩) bY]; exact p2.2
      have gV3 : V.cell? ⟨b', o' + k * 2, none⟩ = some (.int .i64 (vI (gl.getD k (0, 0)).1)) := by rw [HBV.out.cell (p := ⟨b', o' + k * 2, none⟩) bY]; exact g9
      have HOV : Hid (V.ownsRow w.heap.size 46 2 u6 k (cellsP (pIs ((addP fl gl).take k)))) := by rw [← hV]; exact hown.alloc _
      have HI : Hid (∀ k', u6.ownBlock = some k' → w.heap.size ≤ k' ∧ k' < wr.heap.size) := World.ownsRow.lt hown
      have HVs : Hid (wr.heap.size < V.heap.size ∧ w.heap.size ≤ V.heap.size) := by rw [← hV]; exact ⟨by simp, by have := hB.out.size; simp; omega⟩
      have HG2 : Hid (w.cell? ⟨b', o' + k * 2 + 1, none⟩ = some (.int .i64 (vI (gl.getD k (0, 0)).2)) ∧ b' < w.heap.size) := ⟨p2.2, bY⟩
      have HL : Hid ((pIs ((addP fl gl).take k)).length = k) := hlen
      have HP : Hid (pI ((fl.getD k (0, 0)).1, (fl.getD k (0, 0)).2 + (gl.getD k (0, 0)).2) = (vI (fl.getD k (0, 0)).1, (IntKind.i64.wrap (vI (fl.getD k (0, 0)).2 + vI (gl.getD k (0, 0)).2)).tmod 1499)) := by show _ = _; rw [sum_wrap hm1 hm2, hsum]; rfl
      have HFX : Hid ((fl.map Prod.fst).take (k + 1) = (fl.map Prod.fst).take k ++ [(fl.getD k (0, 0)).1]) := fst_take (by rw [HX.out]; exact hlt)
      have HGX : Hid ((gl.map Prod.fst).take (k + 1) = (gl.map Prod.fst).take k ++ [(gl.getD k (0, 0)).1]) := fst_take (by rw [HY.out]; exact hlt)
      have HVI : Hid (vI (gl.getD k (0, 0)).1 = vI (fl.getD k (0, 0)).1 ↔ (gl.getD k (0, 0)).1 = (fl.getD k (0, 0)).1) := ⟨vI_inj, fun e => by rw [e]⟩
      generalize hgx : vI (gl.getD k (0, 0)).1 = x2 at *
      generalize vI (fl.getD k (0, 0)).1 = x at *
      clear hgx g9
      generalize vI (fl.getD k (0, 0)).2 = y at *
      generalize vI (gl.getD k (0, 0)).2 = q at *
      have hk0 : (0 : Int) ≤ (k : Int) := by omega
      have hkl : (k : Int) < (n : Int) := by omega
      clear hlen hown p1 p2 bx bY hcx hcy hsum hO
      by_cases hxe : x2 = x
      · have HPN : Hid ((fl.map Prod.fst).take (k + 1) = (gl.map Prod.fst).take (k + 1)) := by show _ = _; rw [HFX.out, HGX.out, hpre.out, HVI.out.1 hxe]
        have hxx : (x2 != x) = false := by rw [hxe]; simp
        go_wp2_with fail
        clear hV g1 g2
        go_quiet (fail)
        obtain ⟨V2, hV2⟩ : ∃ V2, V.drewN nq = V2 := ⟨_, rfl⟩
        have gW0 : V2.cell? ⟨wr.heap.size, 0, none⟩ = some (.int .i64 x) := by rw [← hV2]; exact gV0
        have gW1 : V2.cell? ⟨wr.heap.size, 1, none⟩ = some (.int .i64 y) := by rw [← hV2]; exact gV1
        have gW2 : V2.cell? ⟨b', o' + k * 2 + 1, none⟩ = some (.int .i64 q) := by rw [← hV2]; exact gV2
        have HBV2 : Hid (Below w.heap.size w V2) := by rw [← hV2]; exact below_drewN HBV.out _
        have HOV2 : Hid (V2.ownsRow w.heap.size 46 2 u6 k (cellsP (pIs ((addP fl gl).take k)))) := by rw [← hV2]; exact HOV.out
        have HVs2 : Hid (wr.heap.size < V2.heap.size ∧ w.heap.size ≤ V2.heap.size) := by rw [← hV2]; exact HVs.out
        rw [hV2]
        clear hV2 gV0 gV1 gV2 gV3 HBV HOV HVs
        go_wp2_with fail
        go_region_held3 (fun w' => w'.cell? ⟨wr.heap.size, 0, none⟩ = some (.int .i64 x) ∧ w'.cell? ⟨wr.heap.size, 1, none⟩ = some (.int .i64 y) ∧ w'.cell? ⟨b', o' + k * 2 + 1, none⟩ = some (.int .i64 q)) (first | exact ⟨gk0, gk1, gk2⟩ | go_keep) (first
          | (refine step_append_lies _ rfl _ _ 26 rfl w.heap.size 46 i0 (.agg #[.int .i64 0, .int .i64 0]) 2 16 Try.underlying26 hi hz0 hz1 hz2 rfl (by decide) _ _ _ rfl (HOV2.out.alloc _).drew ⟨V2.heap.size, 0, none⟩ 1 1 [.int .i64 x, .int .i64 ((IntKind.i64.wrap (y + q)).tmod 1499)] rfl rfl (cell_new2d _ _ _ _) (cellsP_one [(x, ((IntKind.i64.wrap (y + q)).tmod 1499))]) (by omega) (by unfold maxLen; omega) (by omega) (by have := HVs2.out; simp; omega) _ rfl ?_; intro g cap w2 hown' hgrow _ _; have HO' : Hid (OwnP w2 w.heap.size (.slice (some ⟨g, 0, none⟩) (k + 1) cap) (pIs ((addP fl gl).take k) ++ [(x, ((IntKind.i64.wrap (y + q)).tmod 1499))])) := own_pushP (by rw [HL.out]; exact hown'); have HB' : Hid (Below w.heap.size w w2) := (HBV2.out.alloc HVs2.out.2 _).drew.grown hgrow (by have := HVs2.out; simp; omega) (fun k' e => (HI.out k' e).1); have gk0 : w2.cell? ⟨wr.heap.size, 0, none⟩ = some (.int .i64 x) := (row_keep hgrow (heap_ad V2 _ HVs2.out.1).1 (heap_ad V2 _ HVs2.out.1).2 (fun k' e => (HI.out k' e).2) 0).trans gW0; have gk1 : w2.cell? ⟨wr.heap.size, 1, none⟩ = some (.int .i64 y) := (row_keep hgrow (heap_ad V2 _ HVs2.out.1).1 (heap_ad V2 _ HVs2.out.1).2 (fun k' e => (HI.out k' e).2) 1).trans gW1; have gk2 : w2.cell? ⟨b', o' + k * 2 + 1, none⟩ = some (.int .i64 q) := (HB'.out.cell (p := ⟨b', o' + k * 2 + 1, none⟩) HG2.out.2).trans HG2.out.1; clear hown' hgrow))
        all_goals go_wp2
        all_goals go_roundw
        case rel => exact ⟨k + 1, by omega, by go_num, HPN, by show OwnP _ _ _ _; rw [HT.out, pIs_app, HP.out]; exact HO'.out, HB'⟩
        case measure => simp [intOf]; omega
      · have hxx : (x2 != x) = true := by simpa using hxe
        clear hxe
        go_wp2_with fail
        clear hV g1 g2
        go_quiet (fail)
        go_wp2
        refine bodyPost_ret (v := .tuple #[.slice none 0 0, .bool false]) (by simp [results, Try.results25, go_sem]; try rfl) rfl ?_
        exact ⟨rfl, below_drewN HBV.out _⟩
    · exact absurd (by
        have h := hpre.out
        rw [List.take_of_length_le (by rw [List.length_map, HX.out]; omega), List.take_of_length_le (by rw [List.length_map, HY.out]; omega)] at h
        exact h) HE.out

end Go.Proofs.Ytamppekadobagaa
