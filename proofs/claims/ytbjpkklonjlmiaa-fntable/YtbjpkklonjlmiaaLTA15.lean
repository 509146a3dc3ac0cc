/- Chapter 15: the law that all learn the word, and that any other one of the group might have said it. -/
import Derived.Test.YtbjpkklonjlmiaaDY15
import Derived.Test.YtbjpkklonjlmiaaSM15
import Derived.Test.YtbjpkklonjlmiaaP15K
import Derived.Test.YtbjpkklonjlmiaaOS15
import Derived.Test.YtbjpkklonjlmiaaSS15B
import Derived.Test.YtbjpkklonjlmiaaSG15B
import Derived.Deep.RegionHeld3
import Derived.Deep.DrawnRows
import Derived.Deep.Light
namespace Go.Proofs.Ytbjpkklonjlmiaa
set_option linter.unusedVariables false
set_option maxRecDepth 1000000
set_option linter.unusedSimpArgs false
open Go.RowKit Go.Sort

set_option maxHeartbeats 8000000 in
theorem lawFnTable_c (ao : Option Addr) (n c : Nat) (bo : Option Addr) (m d : Nat) (w : World) (hn : n ≤ 9223372036854775807) (h1 : CodeOk w w.heap.size ao n) (hm : m ≤ 9223372036854775807) (h2 : CodeOk w w.heap.size bo m) :
    Calls Try.prog 3 #[.slice ao n c, .slice bo m d] w fun e w' => e = .returned (.bool true) ∧ Below w.heap.size w w' := by
  by_cases hl : 1048576 < wrap64 ((n : Int) + (m : Int))
  · clear h1 h2
    go_enter Try.func3, Try.ntmps3
    go_wp2
    go_ret
    exact ⟨rfl, Below.refl _ _⟩
  have HN : Hid (CodeOk w w.heap.size ao n) := h1
  have HM : Hid (CodeOk w w.heap.size bo m) := h2
  clear h1 h2
  have B_0 : Hid (Below w.heap.size w w) := Below.refl _ _
  go_enter Try.func3, Try.ntmps3
  go_wp2_with fail
  refine (drawAll_c ao n c _ hn HN.out).mono ?_
  rintro e w1 ⟨⟨f, ps, cs⟩, sa, sc, la, lc, who, word, rfl, hts, hrd, hsm, hb⟩
  have z0 : w.heap.size ≤ w1.heap.size := hb.size
  have B_1 : Hid (Below w.heap.size w w1) := B_0.out.trans (hb.mono B_0.out.size)
  clear B_0 hb
  obtain ⟨sN, hsN⟩ : ∃ k : Nat, f = k := ⟨f.toNat, by have := hts.1; have h9 : (0 : Int) ≤ f := this; omega⟩
  subst hsN
  have hs7 : sN ≤ 7 := by have h9 : (sN : Int) ≤ 7 := hts.2; omega
  have RT_1 : Hid (RdT w1 sa ps.length sc la cs.length lc ⟨(sN : Int), ps, cs⟩) := hrd
  have HSM : Hid (SmallTb ⟨(sN : Int), ps, cs⟩) := hsm
  clear hts hrd hsm
  obtain ⟨V, hV⟩ : ∃ V, allV ⟨(sN : Int), ps, cs⟩ who word = V := ⟨_, rfl⟩
  obtain ⟨nv, hnv⟩ : ∃ k, V.length = k := ⟨_, rfl⟩
  have hnv7 : nv ≤ 7 := by
    rw [← hnv, ← hV]
    cases h9 : askB ⟨(sN : Int), ps, cs⟩ who word
    · unfold allV; rw [if_neg (by rw [h9]; decide)]; simp
    · rw [allV_length h9]; show (sN : Int).toNat ≤ 7; omega
  obtain ⟨gd, hgd⟩ : ∃ g, goodTb ⟨(sN : Int), ps, cs⟩ = g := ⟨_, rfl⟩
  cases hok : askB ⟨(sN : Int), ps, cs⟩ who word
  · have QAI : Hid (∀ wx, RdT wx sa ps.length sc la cs.length lc ⟨(sN : Int), ps, cs⟩ → Calls Try.prog 6 #[.agg #[.int .i64 sN, .slice sa ps.length sc, .slice la cs.length lc], .int .i64 who, .int .i64 word] wx fun e w' => ∃ a' c', e = .returned (.tuple #[.slice a' nv c', .bool false]) ∧ Own w' wx.heap.size (.slice a' nv c') V ∧ Below wx.heap.size wx w') := fun wx h => by
      have q := implAll_c sa _ sc la _ lc ⟨(sN : Int), ps, cs⟩ who word wx h
      unfold TellI at q
      rw [hV, hnv, hok] at q
      exact q
    have QAS : Hid (∀ wx, RdT wx sa ps.length sc la cs.length lc ⟨(sN : Int), ps, cs⟩ → Calls Try.prog 7 #[.agg #[.int .i64 sN, .slice sa ps.length sc, .slice la cs.length lc], .int .i64 who, .int .i64 word] wx fun e w' => ∃ a' c', e = .returned (.tuple #[.slice a' nv c', .bool false]) ∧ Own w' wx.heap.size (.slice a' nv c') V ∧ Below wx.heap.size wx w') := fun wx h => by
      have q := specAll_c sa _ sc la _ lc ⟨(sN : Int), ps, cs⟩ who word wx h
      unfold TellI at q
      rw [hV, hnv, hok] at q
      exact q
    have QGI : Hid (∀ wx, RdT wx sa ps.length sc la cs.length lc ⟨(sN : Int), ps, cs⟩ → Calls Try.prog 9 #[.agg #[.int .i64 sN, .slice sa ps.length sc, .slice la cs.length lc]] wx fun e w' => e = .returned (.bool gd) ∧ Below wx.heap.size wx w') := fun wx h => by
      have q := implGoodTb_c sa _ sc la _ lc ⟨(sN : Int), ps, cs⟩ wx h
      rw [hgd] at q
      exact q
    have QGS : Hid (∀ wx, RdT wx sa ps.length sc la cs.length lc ⟨(sN : Int), ps, cs⟩ → Calls Try.prog 10 #[.agg #[.int .i64 sN, .slice sa ps.length sc, .slice la cs.length lc]] wx fun e w' => e = .returned (.bool gd) ∧ Below wx.heap.size wx w') := fun wx h => by
      have q := specGoodTb_c sa _ sc la _ lc ⟨(sN : Int), ps, cs⟩ wx h
      rw [hgd] at q
      exact q
    have HVl : Hid (V.length = nv) := hnv
    clear hnv hV hok hgd
    obtain ⟨w2, hA1⟩ : ∃ X, w1.alloc (.cells #[.int .i64 sN, .slice sa ps.length sc, .slice la cs.length lc] 26) = X := ⟨_, rfl⟩
    have hb : Below w1.heap.size w1 w2 := by rw [← hA1]; exact balloc w1 _
    have B_2 : Hid (Below w.heap.size w w2) := B_1.out.trans (hb.mono B_1.out.size)
    have RT_2 : Hid (RdT w2 sa ps.length sc la cs.length lc ⟨(sN : Int), ps, cs⟩) := RT_1.out.later hb
    have z1 : w1.heap.size ≤ w2.heap.size := hb.size
    clear B_1 RT_1
    clear hb
    have X5_2 : Hid (X3 w2 w1.heap.size (.int .i64 sN) (.slice sa ps.length sc) (.slice la cs.length lc)) := by rw [← hA1]; exact x3_new w1 _ _ _ _ _ rfl
    obtain ⟨⟨uX50, uX51, uX52⟩, uX5z⟩ := id X5_2.out
    go_wp2_with fail
    clear uX50 uX51 uX52 uX5z
    clear hA1
    refine (QAI.out _ RT_2.out).mono ?_
    rintro e w3 ⟨a1, c1, rfl, ho, hb⟩
    have z2 : w2.heap.size ≤ w3.heap.size := hb.size
    have B_3 : Hid (Below w.heap.size w w3) := B_2.out.trans (hb.mono B_2.out.size)
    have RT_3 : Hid (RdT w3 sa ps.length sc la cs.length lc ⟨(sN : Int), ps, cs⟩) := RT_2.out.later hb
    have X5_3 : Hid (X3 w3 w1.heap.size (.int .i64 sN) (.slice sa ps.length sc) (.slice la cs.length lc)) := X5_2.out.later hb
    have V1_3 : Hid (Rd w3 a1 V) := ho.rd'.2
    clear B_2 RT_2 X5_2 hb
    clear ho
    obtain ⟨⟨uX50, uX51, uX52⟩, uX5z⟩ := id X5_3.out
    go_wp2_with fail
    clear uX50 uX51 uX52 uX5z
    refine (QAS.out _ RT_3.out).mono ?_
    rintro e w4 ⟨a2, c2, rfl, ho, hb⟩
    have z3 : w3.heap.size ≤ w4.heap.size := hb.size
    have B_4 : Hid (Below w.heap.size w w4) := B_3.out.trans (hb.mono B_3.out.size)
    have RT_4 : Hid (RdT w4 sa ps.length sc la cs.length lc ⟨(sN : Int), ps, cs⟩) := RT_3.out.later hb
    have X5_4 : Hid (X3 w4 w1.heap.size (.int .i64 sN) (.slice sa ps.length sc) (.slice la cs.length lc)) := X5_3.out.later hb
    have V1_4 : Hid (Rd w4 a1 V) := V1_3.out.later hb
    have V2_4 : Hid (Rd w4 a2 V) := ho.rd'.2
    clear B_3 RT_3 X5_3 V1_3 hb
    clear ho
    go_wp2_with fail
    refine wp_region_held_drew (S := (fun Z => Z.cell? ⟨w1.heap.size, 0, none⟩ = some (.int .i64 sN) ∧ Z.cell? ⟨w1.heap.size, 1, none⟩ = some (.slice sa ps.length sc) ∧ Z.cell? ⟨w1.heap.size, 2, none⟩ = some (.slice la cs.length lc))) (by kernel_rfl) ?_ (fun hHeld => ?_)
    · exact X5_4.out.1
    obtain ⟨v0, hv0⟩ : ∃ D, w4.drew = D := ⟨_, rfl⟩
    have hb0 : Below w4.heap.size w4 v0 := by rw [← hv0]; exact (Below.refl _ _).drew
    rw [hv0] at hHeld ⊢
    have B_5 : Hid (Below w.heap.size w v0) := B_4.out.trans (hb0.mono B_4.out.size)
    have RT_5 : Hid (RdT v0 sa ps.length sc la cs.length lc ⟨(sN : Int), ps, cs⟩) := RT_4.out.later hb0
    have X5_5 : Hid (X3 v0 w1.heap.size (.int .i64 sN) (.slice sa ps.length sc) (.slice la cs.length lc)) := X5_4.out.later hb0
    have V1_5 : Hid (Rd v0 a1 V) := V1_4.out.later hb0
    have V2_5 : Hid (Rd v0 a2 V) := V2_4.out.later hb0
    have z4 : w4.heap.size ≤ v0.heap.size := hb0.size
    clear B_4 RT_4 X5_4 V1_4 V2_4
    clear hb0 hv0
    refine takeDT15 (i := 0) (oi := _) (v := ?_) (d := some 66) rfl (by kernel_rfl) (by kernel_rfl) (by kernel_rfl) (by kernel_rfl) (fun _ _ _ h => h) (Or.inl ⟨by rfl, ?_⟩) (by assumption) ?_
    rotate_left
    · (intro w hSw; (try dsimp only at hSw); go_simp <;> with_reducible rfl)
    try simp only [Act.put, List.setIfInBounds_toArray, List.set_cons_zero, List.set_cons_succ]
    refine takeDT15 (i := 1) (oi := _) (v := ?_) (d := some 67) rfl (by kernel_rfl) (by kernel_rfl) (by kernel_rfl) (by kernel_rfl) (fun _ _ _ h => h) (Or.inl ⟨by rfl, ?_⟩) (by assumption) ?_
    rotate_left
    · (intro w hSw; (try dsimp only at hSw); go_simp <;> with_reducible rfl)
    try simp only [Act.put, List.setIfInBounds_toArray, List.set_cons_zero, List.set_cons_succ]
    refine takeDT15 (i := 2) (oi := _) (v := ?_) (d := some 68) rfl (by kernel_rfl) (by kernel_rfl) (by kernel_rfl) (by kernel_rfl) (fun _ _ _ h => h) (Or.inl ⟨by rfl, ?_⟩) (by assumption) ?_
    rotate_left
    · (intro w hSw; (try dsimp only at hSw); go_simp <;> with_reducible rfl)
    try simp only [Act.put, List.setIfInBounds_toArray, List.set_cons_zero, List.set_cons_succ]
    refine takeDT15 (i := 3) (oi := _) (v := ?_) (d := some 69) rfl (by kernel_rfl) (by kernel_rfl) (by kernel_rfl) (by kernel_rfl) (fun _ _ _ h => h) (Or.inl ⟨by rfl, ?_⟩) (by assumption) ?_
    rotate_left
    · (intro w hSw; (try dsimp only at hSw); go_simp <;> with_reducible rfl)
    try simp only [Act.put, List.setIfInBounds_toArray, List.set_cons_zero, List.set_cons_succ]
    refine takeDT15 (i := 4) (oi := _) (v := ?_) (d := some 70) rfl (by kernel_rfl) (by kernel_rfl) (by kernel_rfl) (by kernel_rfl) (fun _ _ _ h => h) (Or.inl ⟨by rfl, ?_⟩) (by assumption) ?_
    rotate_left
    · (intro w hSw; (try dsimp only at hSw); go_simp <;> with_reducible rfl)
    try simp only [Act.put, List.setIfInBounds_toArray, List.set_cons_zero, List.set_cons_succ]
    refine takeDT15 (i := 5) (oi := _) (v := ?_) (d := some 71) rfl (by kernel_rfl) (by kernel_rfl) (by kernel_rfl) (by kernel_rfl) (fun _ _ _ h => h) (Or.inl ⟨by rfl, ?_⟩) (by assumption) ?_
    rotate_left
    · (intro w hSw; (try dsimp only at hSw); go_simp <;> with_reducible rfl)
    try simp only [Act.put, List.setIfInBounds_toArray, List.set_cons_zero, List.set_cons_succ]
    refine wpAnyH_ready (rs := [6]) (by kernel_rfl) (by simp) ?_
    refine AllReadyH.cons (o := _) rfl (fun K hK => ?_) AllReadyH.nil
    go_simp
    refine (sameInts_c a1 a2 nv nv c1 c2 V V _ HVl.out HVl.out (by omega) (by omega) V1_5.out V2_5.out).mono ?_
    rw [decide_eq_true rfl]
    rintro e v1 ⟨rfl, hb⟩
    have B_6 : Hid (Below w.heap.size w v1) := B_5.out.trans (hb.mono B_5.out.size)
    have RT_6 : Hid (RdT v1 sa ps.length sc la cs.length lc ⟨(sN : Int), ps, cs⟩) := RT_5.out.later hb
    have X5_6 : Hid (X3 v1 w1.heap.size (.int .i64 sN) (.slice sa ps.length sc) (.slice la cs.length lc)) := X5_5.out.later hb
    have V1_6 : Hid (Rd v1 a1 V) := V1_5.out.later hb
    have V2_6 : Hid (Rd v1 a2 V) := V2_5.out.later hb
    have z5 : v0.heap.size ≤ v1.heap.size := hb.size
    clear B_5 RT_5 X5_5 V1_5 V2_5
    clear hb
    refine hK.out _ _ ?_ (fun hHeld => ?_)
    · exact X5_6.out.1
    clear hK K
    try simp only [Act.put, List.setIfInBounds_toArray, List.set_cons_zero, List.set_cons_succ]
    refine takeDT15 (i := 7) (oi := _) (v := ?_) (d := some 73) rfl (by kernel_rfl) (by kernel_rfl) (by kernel_rfl) (by kernel_rfl) (fun _ _ _ h => h) (Or.inl ⟨by rfl, ?_⟩) (by assumption) ?_
    rotate_left
    · (intro w hSw; (try dsimp only at hSw); go_simp <;> with_reducible rfl)
    try simp only [Act.put, List.setIfInBounds_toArray, List.set_cons_zero, List.set_cons_succ]
    refine takeDT15 (i := 8) (oi := _) (v := ?_) (d := some 74) rfl (by kernel_rfl) (by kernel_rfl) (by kernel_rfl) (by kernel_rfl) (fun _ _ _ h => h) (Or.inl ⟨by rfl, ?_⟩) (by assumption) ?_
    rotate_left
    · (intro w hSw; (try dsimp only at hSw); go_simp <;> with_reducible rfl)
    try simp only [Act.put, List.setIfInBounds_toArray, List.set_cons_zero, List.set_cons_succ]
    refine takeDT15 (i := 9) (oi := _) (v := ?_) (d := some 75) rfl (by kernel_rfl) (by kernel_rfl) (by kernel_rfl) (by kernel_rfl) (fun _ _ _ h => h) (Or.inl ⟨by rfl, ?_⟩) (by assumption) ?_
    rotate_left
    · (intro w hSw; (try dsimp only at hSw); go_simp <;> with_reducible rfl)
    try simp only [Act.put, List.setIfInBounds_toArray, List.set_cons_zero, List.set_cons_succ]
    refine takeDT15 (i := 10) (oi := _) (v := ?_) (d := some 76) rfl (by kernel_rfl) (by kernel_rfl) (by kernel_rfl) (by kernel_rfl) (fun _ _ _ h => h) (Or.inl ⟨by rfl, ?_⟩) (by assumption) ?_
    rotate_left
    · (intro w hSw; (try dsimp only at hSw); go_simp <;> with_reducible rfl)
    try simp only [Act.put, List.setIfInBounds_toArray, List.set_cons_zero, List.set_cons_succ]
    refine takeDT15 (i := 12) (oi := _) (v := ?_) (d := some 78) rfl (by kernel_rfl) (by kernel_rfl) (by kernel_rfl) (by kernel_rfl) (fun _ _ _ h => h) (Or.inl ⟨by rfl, ?_⟩) (by assumption) ?_
    rotate_left
    · (intro w hSw; (try dsimp only at hSw); go_simp <;> with_reducible rfl)
    try simp only [Act.put, List.setIfInBounds_toArray, List.set_cons_zero, List.set_cons_succ]
    refine wpAnyH_ready (rs := [11]) (by kernel_rfl) (by simp) ?_
    refine AllReadyH.cons (o := _) rfl (fun K hK => ?_) AllReadyH.nil
    go_simp
    refine (QGI.out _ RT_6.out).mono ?_
    rintro e v2 ⟨rfl, hb⟩
    have B_7 : Hid (Below w.heap.size w v2) := B_6.out.trans (hb.mono B_6.out.size)
    have RT_7 : Hid (RdT v2 sa ps.length sc la cs.length lc ⟨(sN : Int), ps, cs⟩) := RT_6.out.later hb
    have X5_7 : Hid (X3 v2 w1.heap.size (.int .i64 sN) (.slice sa ps.length sc) (.slice la cs.length lc)) := X5_6.out.later hb
    have V1_7 : Hid (Rd v2 a1 V) := V1_6.out.later hb
    have V2_7 : Hid (Rd v2 a2 V) := V2_6.out.later hb
    have z6 : v1.heap.size ≤ v2.heap.size := hb.size
    clear B_6 RT_6 X5_6 V1_6 V2_6
    clear hb
    refine hK.out _ _ ?_ (fun hHeld => ?_)
    · exact X5_7.out.1
    clear hK K
    try simp only [Act.put, List.setIfInBounds_toArray, List.set_cons_zero, List.set_cons_succ]
    refine wpAnyH_ready (rs := [13]) (by kernel_rfl) (by simp) ?_
    refine AllReadyH.cons (o := _) rfl (fun K hK => ?_) AllReadyH.nil
    go_simp
    refine (QGS.out _ RT_7.out).mono ?_
    rintro e v3 ⟨rfl, hb⟩
    have B_8 : Hid (Below w.heap.size w v3) := B_7.out.trans (hb.mono B_7.out.size)
    have RT_8 : Hid (RdT v3 sa ps.length sc la cs.length lc ⟨(sN : Int), ps, cs⟩) := RT_7.out.later hb
    have X5_8 : Hid (X3 v3 w1.heap.size (.int .i64 sN) (.slice sa ps.length sc) (.slice la cs.length lc)) := X5_7.out.later hb
    have V1_8 : Hid (Rd v3 a1 V) := V1_7.out.later hb
    have V2_8 : Hid (Rd v3 a2 V) := V2_7.out.later hb
    have z7 : v2.heap.size ≤ v3.heap.size := hb.size
    clear B_7 RT_7 X5_7 V1_7 V2_7
    clear hb
    refine hK.out _ _ ?_ (fun hHeld => ?_)
    · exact X5_8.out.1
    clear hK K
    try simp only [Act.put, List.setIfInBounds_toArray, List.set_cons_zero, List.set_cons_succ]
    have hgg : (gd != gd) = false := by simp
    refine takeDT15 (i := 14) (oi := _) (v := ?_) (d := some 80) rfl (by kernel_rfl) (by kernel_rfl) (by kernel_rfl) (by kernel_rfl) (fun _ _ _ h => h) (Or.inl ⟨by rfl, ?_⟩) (by assumption) ?_
    rotate_left
    · (intro w hSw; (try dsimp only at hSw); go_simp <;> with_reducible rfl)
    try simp only [Act.put, List.setIfInBounds_toArray, List.set_cons_zero, List.set_cons_succ]
    refine takeDT15 (i := 15) (oi := _) (v := ?_) (d := some 81) rfl (by kernel_rfl) (by kernel_rfl) (by kernel_rfl) (by kernel_rfl) (fun _ _ _ h => h) (Or.inl ⟨by rfl, ?_⟩) (by assumption) ?_
    rotate_left
    · (intro w hSw; (try dsimp only at hSw); go_simp <;> with_reducible rfl)
    try simp only [Act.put, List.setIfInBounds_toArray, List.set_cons_zero, List.set_cons_succ]
    refine wpAnyH_done (by kernel_rfl) ?_ _
    clear hHeld
    clear V2_8
    clear V1_8
    clear X5_8
    clear RT_8
    clear QAI QAS QGI QGS
    go_wp2_with fail
    refine (drawOth_c bo m d _ hm (HM.out.later B_8.out B_8.out.size)).mono ?_
    rintro e w9 ⟨t2, sb, sd, lb, ld, oa, ob, ow, rfl, hts, hrd, hsm, hb⟩
    have z8 : v3.heap.size ≤ w9.heap.size := hb.size
    have B_9 : Hid (Below w.heap.size w w9) := B_8.out.trans (hb.mono B_8.out.size)
    clear B_8 hb
    have RT2_9 : Hid (RdT w9 sb t2.ps.length sd lb t2.cs.length ld t2) := hrd
    clear hrd hsm hts
    obtain ⟨nb, hnb⟩ : ∃ x, othV t2 oa ob ow = x := ⟨_, rfl⟩
    obtain ⟨fb, hfb⟩ : ∃ x, othB t2 oa ob ow = x := ⟨_, rfl⟩
    have HNS : Hid (SmallTb nb) := by rw [← hnb]; exact othV_sm _ _ _ _
    have ROI : Hid (∀ wx, RdT wx sb t2.ps.length sd lb t2.cs.length ld t2 → Calls Try.prog 13 #[.agg #[.int .i64 t2.s, .slice sb t2.ps.length sd, .slice lb t2.cs.length ld], .int .i64 oa, .int .i64 ob, .int .i64 ow] wx fun e w' => ∃ (sa' : Option Addr) (sc' : Nat) (la' : Option Addr) (lc' : Nat), e = .returned (.tuple #[.agg #[.int .i64 nb.s, .slice sa' nb.ps.length sc', .slice la' nb.cs.length lc'], .bool fb]) ∧ RdT w' sa' nb.ps.length sc' la' nb.cs.length lc' nb ∧ Below wx.heap.size wx w') := fun wx h => by
      have q := implOth_c sb _ sd lb _ ld t2 oa ob ow wx h
      unfold TellT at q
      rw [hnb, hfb] at q
      refine q.mono ?_
      rintro e w' ⟨s1, s2, l1, l2, h1, h2, h3⟩
      exact ⟨s1, s2, l1, l2, h1, rdT_of HNS.out h2.rd, h3⟩
    have ROS : Hid (∀ wx, RdT wx sb t2.ps.length sd lb t2.cs.length ld t2 → Calls Try.prog 16 #[.agg #[.int .i64 t2.s, .slice sb t2.ps.length sd, .slice lb t2.cs.length ld], .int .i64 oa, .int .i64 ob, .int .i64 ow] wx fun e w' => ∃ (sa' : Option Addr) (sc' : Nat) (la' : Option Addr) (lc' : Nat), e = .returned (.tuple #[.agg #[.int .i64 nb.s, .slice sa' nb.ps.length sc', .slice la' nb.cs.length lc'], .bool fb]) ∧ RdT w' sa' nb.ps.length sc' la' nb.cs.length lc' nb ∧ Below wx.heap.size wx w') := fun wx h => by
      have q := specOth_c sb _ sd lb _ ld t2 oa ob ow wx h
      unfold TellT at q
      rw [hnb, hfb] at q
      refine q.mono ?_
      rintro e w' ⟨s1, s2, l1, l2, h1, h2, h3⟩
      exact ⟨s1, s2, l1, l2, h1, rdT_of HNS.out h2.rd, h3⟩
    clear hnb hfb
    have hff : (fb == fb) = true := by simp
    obtain ⟨w10, hA9⟩ : ∃ X, w9.alloc (.cells #[.int .i64 t2.s, .slice sb t2.ps.length sd, .slice lb t2.cs.length ld] 26) = X := ⟨_, rfl⟩
    have hb : Below w9.heap.size w9 w10 := by rw [← hA9]; exact balloc w9 _
    have B_10 : Hid (Below w.heap.size w w10) := B_9.out.trans (hb.mono B_9.out.size)
    have RT2_10 : Hid (RdT w10 sb t2.ps.length sd lb t2.cs.length ld t2) := RT2_9.out.later hb
    have z9 : w9.heap.size ≤ w10.heap.size := hb.size
    clear B_9 RT2_9
    clear hb
    have X24_10 : Hid (X3 w10 w9.heap.size (.int .i64 t2.s) (.slice sb t2.ps.length sd) (.slice lb t2.cs.length ld)) := by rw [← hA9]; exact x3_new w9 _ _ _ _ _ rfl
    obtain ⟨⟨uX240, uX241, uX242⟩, uX24z⟩ := id X24_10.out
    go_wp2_with fail
    clear uX240 uX241 uX242 uX24z
    clear hA9
    refine (ROI.out _ RT2_10.out).mono ?_
    rintro e w11 ⟨p8, q8, r8, s8, rfl, hrd, hb⟩
    have z10 : w10.heap.size ≤ w11.heap.size := hb.size
    have B_11 : Hid (Below w.heap.size w w11) := B_10.out.trans (hb.mono B_10.out.size)
    have RT2_11 : Hid (RdT w11 sb t2.ps.length sd lb t2.cs.length ld t2) := RT2_10.out.later hb
    have X24_11 : Hid (X3 w11 w9.heap.size (.int .i64 t2.s) (.slice sb t2.ps.length sd) (.slice lb t2.cs.length ld)) := X24_10.out.later hb
    have N8_11 : Hid (RdT w11 p8 nb.ps.length q8 r8 nb.cs.length s8 nb) := hrd
    clear B_10 RT2_10 X24_10 hb
    clear hrd
    obtain ⟨w12, hA11⟩ : ∃ X, w11.alloc (.cells #[.int .i64 nb.s, .slice p8 nb.ps.length q8, .slice r8 nb.cs.length s8] 26) = X := ⟨_, rfl⟩
    have hb : Below w11.heap.size w11 w12 := by rw [← hA11]; exact balloc w11 _
    have B_12 : Hid (Below w.heap.size w w12) := B_11.out.trans (hb.mono B_11.out.size)
    have RT2_12 : Hid (RdT w12 sb t2.ps.length sd lb t2.cs.length ld t2) := RT2_11.out.later hb
    have X24_12 : Hid (X3 w12 w9.heap.size (.int .i64 t2.s) (.slice sb t2.ps.length sd) (.slice lb t2.cs.length ld)) := X24_11.out.later hb
    have N8_12 : Hid (RdT w12 p8 nb.ps.length q8 r8 nb.cs.length s8 nb) := N8_11.out.later hb
    have z11 : w11.heap.size ≤ w12.heap.size := hb.size
    clear B_11 RT2_11 X24_11 N8_11
    clear hb
    have Y8_12 : Hid (X3 w12 w11.heap.size (.int .i64 nb.s) (.slice p8 nb.ps.length q8) (.slice r8 nb.cs.length s8)) := by rw [← hA11]; exact x3_new w11 _ _ _ _ _ rfl
    obtain ⟨⟨uX240, uX241, uX242⟩, uX24z⟩ := id X24_12.out
    go_wp2_with fail
    clear uX240 uX241 uX242 uX24z
    clear hA11
    refine (ROS.out _ RT2_12.out).mono ?_
    rintro e w13 ⟨p9, q9, r9, s9, rfl, hrd, hb⟩
    have z12 : w12.heap.size ≤ w13.heap.size := hb.size
    have B_13 : Hid (Below w.heap.size w w13) := B_12.out.trans (hb.mono B_12.out.size)
    have RT2_13 : Hid (RdT w13 sb t2.ps.length sd lb t2.cs.length ld t2) := RT2_12.out.later hb
    have X24_13 : Hid (X3 w13 w9.heap.size (.int .i64 t2.s) (.slice sb t2.ps.length sd) (.slice lb t2.cs.length ld)) := X24_12.out.later hb
    have N8_13 : Hid (RdT w13 p8 nb.ps.length q8 r8 nb.cs.length s8 nb) := N8_12.out.later hb
    have Y8_13 : Hid (X3 w13 w11.heap.size (.int .i64 nb.s) (.slice p8 nb.ps.length q8) (.slice r8 nb.cs.length s8)) := Y8_12.out.later hb
    have N9_13 : Hid (RdT w13 p9 nb.ps.length q9 r9 nb.cs.length s9 nb) := hrd
    clear B_12 RT2_12 X24_12 N8_12 Y8_12 hb
    clear hrd
    obtain ⟨w14, hA13⟩ : ∃ X, w13.alloc (.cells #[.int .i64 nb.s, .slice p9 nb.ps.length q9, .slice r9 nb.cs.length s9] 26) = X := ⟨_, rfl⟩
    have hb : Below w13.heap.size w13 w14 := by rw [← hA13]; exact balloc w13 _
    have B_14 : Hid (Below w.heap.size w w14) := B_13.out.trans (hb.mono B_13.out.size)
    have RT2_14 : Hid (RdT w14 sb t2.ps.length sd lb t2.cs.length ld t2) := RT2_13.out.later hb
    have X24_14 : Hid (X3 w14 w9.heap.size (.int .i64 t2.s) (.slice sb t2.ps.length sd) (.slice lb t2.cs.length ld)) := X24_13.out.later hb
    have N8_14 : Hid (RdT w14 p8 nb.ps.length q8 r8 nb.cs.length s8 nb) := N8_13.out.later hb
    have Y8_14 : Hid (X3 w14 w11.heap.size (.int .i64 nb.s) (.slice p8 nb.ps.length q8) (.slice r8 nb.cs.length s8)) := Y8_13.out.later hb
    have N9_14 : Hid (RdT w14 p9 nb.ps.length q9 r9 nb.cs.length s9 nb) := N9_13.out.later hb
    have z13 : w13.heap.size ≤ w14.heap.size := hb.size
    clear B_13 RT2_13 X24_13 N8_13 Y8_13 N9_13
    clear hb
    have Y9_14 : Hid (X3 w14 w13.heap.size (.int .i64 nb.s) (.slice p9 nb.ps.length q9) (.slice r9 nb.cs.length s9)) := by rw [← hA13]; exact x3_new w13 _ _ _ _ _ rfl
    clear X24_14
    clear RT2_14
    go_wp2_with fail
    clear hA13
    refine (drawSayAt_c bo m d _ hm (HM.out.later B_14.out B_14.out.size)).mono ?_
    rintro e w15 ⟨t3, se, sf, le, lf, vs, vw, vo, rfl, hts, hrd, hsm, hb⟩
    have z14 : w14.heap.size ≤ w15.heap.size := hb.size
    have B_15 : Hid (Below w.heap.size w w15) := B_14.out.trans (hb.mono B_14.out.size)
    have N8_15 : Hid (RdT w15 p8 nb.ps.length q8 r8 nb.cs.length s8 nb) := N8_14.out.later hb
    have Y8_15 : Hid (X3 w15 w11.heap.size (.int .i64 nb.s) (.slice p8 nb.ps.length q8) (.slice r8 nb.cs.length s8)) := Y8_14.out.later hb
    have N9_15 : Hid (RdT w15 p9 nb.ps.length q9 r9 nb.cs.length s9 nb) := N9_14.out.later hb
    have Y9_15 : Hid (X3 w15 w13.heap.size (.int .i64 nb.s) (.slice p9 nb.ps.length q9) (.slice r9 nb.cs.length s9)) := Y9_14.out.later hb
    clear B_14 N8_14 Y8_14 N9_14 Y9_14 hb
    have RT3_15 : Hid (RdT w15 se t3.ps.length sf le t3.cs.length lf t3) := hrd
    clear hrd hsm hts ROI ROS
    obtain ⟨xv, hxv⟩ : ∃ x, saV t3 vs vw vo = x := ⟨_, rfl⟩
    obtain ⟨xb, hxb⟩ : ∃ x, saB t3 vs vw vo = x := ⟨_, rfl⟩
    have RSI : Hid (∀ wx, RdT wx se t3.ps.length sf le t3.cs.length lf t3 → Calls Try.prog 12 #[.agg #[.int .i64 t3.s, .slice se t3.ps.length sf, .slice le t3.cs.length lf], .int .i64 vs, .int .i64 vw, .int .i64 vo] wx fun e w' => e = .returned (.tuple #[.int .i64 xv, .bool xb]) ∧ Below wx.heap.size wx w') := fun wx h => by
      have q := implSayAt_c se _ sf le _ lf t3 vs vw vo wx h
      rw [hxv, hxb] at q
      exact q
    have RSS : Hid (∀ wx, RdT wx se t3.ps.length sf le t3.cs.length lf t3 → Calls Try.prog 18 #[.agg #[.int .i64 t3.s, .slice se t3.ps.length sf, .slice le t3.cs.length lf], .int .i64 vs, .int .i64 vw, .int .i64 vo] wx fun e w' => e = .returned (.tuple #[.int .i64 xv, .bool xb]) ∧ Below wx.heap.size wx w') := fun wx h => by
      have q := specSayAt_c se _ sf le _ lf t3 vs vw vo wx h
      rw [hxv, hxb] at q
      exact q
    clear hxv hxb
    have hxx : (xb == xb) = true := by simp
    have hvx : (xv == xv) = true := by simp
    obtain ⟨w16, hA15⟩ : ∃ X, w15.alloc (.cells #[.int .i64 t3.s, .slice se t3.ps.length sf, .slice le t3.cs.length lf] 26) = X := ⟨_, rfl⟩
    have hb : Below w15.heap.size w15 w16 := by rw [← hA15]; exact balloc w15 _
    have B_16 : Hid (Below w.heap.size w w16) := B_15.out.trans (hb.mono B_15.out.size)
    have N8_16 : Hid (RdT w16 p8 nb.ps.length q8 r8 nb.cs.length s8 nb) := N8_15.out.later hb
    have Y8_16 : Hid (X3 w16 w11.heap.size (.int .i64 nb.s) (.slice p8 nb.ps.length q8) (.slice r8 nb.cs.length s8)) := Y8_15.out.later hb
    have N9_16 : Hid (RdT w16 p9 nb.ps.length q9 r9 nb.cs.length s9 nb) := N9_15.out.later hb
    have Y9_16 : Hid (X3 w16 w13.heap.size (.int .i64 nb.s) (.slice p9 nb.ps.length q9) (.slice r9 nb.cs.length s9)) := Y9_15.out.later hb
    have RT3_16 : Hid (RdT w16 se t3.ps.length sf le t3.cs.length lf t3) := RT3_15.out.later hb
    have z15 : w15.heap.size ≤ w16.heap.size := hb.size
    clear B_15 N8_15 Y8_15 N9_15 Y9_15 RT3_15
    clear hb
    have X32_16 : Hid (X3 w16 w15.heap.size (.int .i64 t3.s) (.slice se t3.ps.length sf) (.slice le t3.cs.length lf)) := by rw [← hA15]; exact x3_new w15 _ _ _ _ _ rfl
    obtain ⟨⟨uX320, uX321, uX322⟩, uX32z⟩ := id X32_16.out
    go_wp2_with fail
    clear uX320 uX321 uX322 uX32z
    clear hA15
    refine (RSI.out _ RT3_16.out).mono ?_
    rintro e w17 ⟨rfl, hb⟩
    have z16 : w16.heap.size ≤ w17.heap.size := hb.size
    have B_17 : Hid (Below w.heap.size w w17) := B_16.out.trans (hb.mono B_16.out.size)
    have N8_17 : Hid (RdT w17 p8 nb.ps.length q8 r8 nb.cs.length s8 nb) := N8_16.out.later hb
    have Y8_17 : Hid (X3 w17 w11.heap.size (.int .i64 nb.s) (.slice p8 nb.ps.length q8) (.slice r8 nb.cs.length s8)) := Y8_16.out.later hb
    have N9_17 : Hid (RdT w17 p9 nb.ps.length q9 r9 nb.cs.length s9 nb) := N9_16.out.later hb
    have Y9_17 : Hid (X3 w17 w13.heap.size (.int .i64 nb.s) (.slice p9 nb.ps.length q9) (.slice r9 nb.cs.length s9)) := Y9_16.out.later hb
    have RT3_17 : Hid (RdT w17 se t3.ps.length sf le t3.cs.length lf t3) := RT3_16.out.later hb
    have X32_17 : Hid (X3 w17 w15.heap.size (.int .i64 t3.s) (.slice se t3.ps.length sf) (.slice le t3.cs.length lf)) := X32_16.out.later hb
    clear B_16 N8_16 Y8_16 N9_16 Y9_16 RT3_16 X32_16 hb
    obtain ⟨⟨uX320, uX321, uX322⟩, uX32z⟩ := id X32_17.out
    go_wp2_with fail
    clear uX320 uX321 uX322 uX32z
    refine (RSS.out _ RT3_17.out).mono ?_
    rintro e w18 ⟨rfl, hb⟩
    have z17 : w17.heap.size ≤ w18.heap.size := hb.size
    have B_18 : Hid (Below w.heap.size w w18) := B_17.out.trans (hb.mono B_17.out.size)
    have N8_18 : Hid (RdT w18 p8 nb.ps.length q8 r8 nb.cs.length s8 nb) := N8_17.out.later hb
    have Y8_18 : Hid (X3 w18 w11.heap.size (.int .i64 nb.s) (.slice p8 nb.ps.length q8) (.slice r8 nb.cs.length s8)) := Y8_17.out.later hb
    have N9_18 : Hid (RdT w18 p9 nb.ps.length q9 r9 nb.cs.length s9 nb) := N9_17.out.later hb
    have Y9_18 : Hid (X3 w18 w13.heap.size (.int .i64 nb.s) (.slice p9 nb.ps.length q9) (.slice r9 nb.cs.length s9)) := Y9_17.out.later hb
    have RT3_18 : Hid (RdT w18 se t3.ps.length sf le t3.cs.length lf t3) := RT3_17.out.later hb
    have X32_18 : Hid (X3 w18 w15.heap.size (.int .i64 t3.s) (.slice se t3.ps.length sf) (.slice le t3.cs.length lf)) := X32_17.out.later hb
    clear B_17 N8_17 Y8_17 N9_17 Y9_17 RT3_17 X32_17 hb
    obtain ⟨⟨uY80, uY81, uY82⟩, uY8z⟩ := id Y8_18.out
    obtain ⟨⟨uY90, uY91, uY92⟩, uY9z⟩ := id Y9_18.out
    go_wp2_with fail
    clear uY80 uY81 uY82 uY8z
    clear uY90 uY91 uY92 uY9z
    refine (sameTable_c p8 _ q8 r8 _ s8 p9 q9 r9 s9 nb _ HNS.out N8_18.out N9_18.out).mono ?_
    rintro e w19 ⟨rfl, hb⟩
    have z18 : w18.heap.size ≤ w19.heap.size := hb.size
    have B_19 : Hid (Below w.heap.size w w19) := B_18.out.trans (hb.mono B_18.out.size)
    have N8_19 : Hid (RdT w19 p8 nb.ps.length q8 r8 nb.cs.length s8 nb) := N8_18.out.later hb
    have Y8_19 : Hid (X3 w19 w11.heap.size (.int .i64 nb.s) (.slice p8 nb.ps.length q8) (.slice r8 nb.cs.length s8)) := Y8_18.out.later hb
    have N9_19 : Hid (RdT w19 p9 nb.ps.length q9 r9 nb.cs.length s9 nb) := N9_18.out.later hb
    have Y9_19 : Hid (X3 w19 w13.heap.size (.int .i64 nb.s) (.slice p9 nb.ps.length q9) (.slice r9 nb.cs.length s9)) := Y9_18.out.later hb
    have RT3_19 : Hid (RdT w19 se t3.ps.length sf le t3.cs.length lf t3) := RT3_18.out.later hb
    have X32_19 : Hid (X3 w19 w15.heap.size (.int .i64 t3.s) (.slice se t3.ps.length sf) (.slice le t3.cs.length lf)) := X32_18.out.later hb
    clear B_18 N8_18 Y8_18 N9_18 Y9_18 RT3_18 X32_18 hb
    go_wp2
    go_ret
    exact ⟨rfl, B_19.out⟩
  · have QAI : Hid (∀ wx, RdT wx sa ps.length sc la cs.length lc ⟨(sN : Int), ps, cs⟩ → Calls Try.prog 6 #[.agg #[.int .i64 sN, .slice sa ps.length sc, .slice la cs.length lc], .int .i64 who, .int .i64 word] wx fun e w' => ∃ a' c', e = .returned (.tuple #[.slice a' nv c', .bool true]) ∧ Own w' wx.heap.size (.slice a' nv c') V ∧ Below wx.heap.size wx w') := fun wx h => by
      have q := implAll_c sa _ sc la _ lc ⟨(sN : Int), ps, cs⟩ who word wx h
      unfold TellI at q
      rw [hV, hnv, hok] at q
      exact q
    have QAS : Hid (∀ wx, RdT wx sa ps.length sc la cs.length lc ⟨(sN : Int), ps, cs⟩ → Calls Try.prog 7 #[.agg #[.int .i64 sN, .slice sa ps.length sc, .slice la cs.length lc], .int .i64 who, .int .i64 word] wx fun e w' => ∃ a' c', e = .returned (.tuple #[.slice a' nv c', .bool true]) ∧ Own w' wx.heap.size (.slice a' nv c') V ∧ Below wx.heap.size wx w') := fun wx h => by
      have q := specAll_c sa _ sc la _ lc ⟨(sN : Int), ps, cs⟩ who word wx h
      unfold TellI at q
      rw [hV, hnv, hok] at q
      exact q
    have QGI : Hid (∀ wx, RdT wx sa ps.length sc la cs.length lc ⟨(sN : Int), ps, cs⟩ → Calls Try.prog 9 #[.agg #[.int .i64 sN, .slice sa ps.length sc, .slice la cs.length lc]] wx fun e w' => e = .returned (.bool gd) ∧ Below wx.heap.size wx w') := fun wx h => by
      have q := implGoodTb_c sa _ sc la _ lc ⟨(sN : Int), ps, cs⟩ wx h
      rw [hgd] at q
      exact q
    have QGS : Hid (∀ wx, RdT wx sa ps.length sc la cs.length lc ⟨(sN : Int), ps, cs⟩ → Calls Try.prog 10 #[.agg #[.int .i64 sN, .slice sa ps.length sc, .slice la cs.length lc]] wx fun e w' => e = .returned (.bool gd) ∧ Below wx.heap.size wx w') := fun wx h => by
      have q := specGoodTb_c sa _ sc la _ lc ⟨(sN : Int), ps, cs⟩ wx h
      rw [hgd] at q
      exact q
    have HVl : Hid (V.length = nv) := hnv
    have hpt := ask_parts hok
    obtain ⟨r, hr⟩ : ∃ r : Int, (if who = -1 then (0 : Int) else word) = r := ⟨_, rfl⟩
    have hsum := sum_told hok
    rw [hV, hr] at hsum
    have hnvs : nv = sN := by rw [← hnv, ← hV, allV_length hok]; show (sN : Int).toNat = sN; omega
    subst hnvs
    have hw1 : -1 ≤ who := hpt.2.2.1.1
    have hcs : (who = -1 ∧ r = 0) ∨ (0 ≤ who ∧ r = word) := by
      by_cases h9 : who = -1
      · rw [if_pos h9] at hr; exact Or.inl ⟨h9, hr.symm⟩
      · rw [if_neg h9] at hr; exact Or.inr ⟨by omega, hr.symm⟩
    have QSU : Hid (∀ ax cx wx, Rd wx ax V → Calls Try.prog 11 #[.slice ax nv cx] wx fun e w' => e = .returned (.tuple #[.int .i64 r, .bool true]) ∧ Below wx.heap.size wx w') := fun ax cx wx h => by
      have q := implSumF_c ax nv cx V wx hnv (by omega) h r true hsum
      exact q
    have QSA : Hid (∀ (k : Nat) wx, (k < nv ∧ RdT wx sa ps.length sc la cs.length lc ⟨(nv : Int), ps, cs⟩) → Calls Try.prog 12 #[.agg #[.int .i64 nv, .slice sa ps.length sc, .slice la cs.length lc], .int .i64 k, .int .i64 who, .int .i64 word] wx fun e w' => e = .returned (.tuple #[.int .i64 (V.getD k 0), .bool true]) ∧ Below wx.heap.size wx w') := fun (k : Nat) wx h => by
      have q := implSayAt_c sa _ sc la _ lc ⟨(nv : Int), ps, cs⟩ k who word wx (h.2)
      obtain ⟨e1, e2⟩ := say_told hok (k := k) (by show k < (nv : Int).toNat; have := h.1; omega)
      rw [e1, e2, hV] at q
      exact q
    have QWB : Hid (∀ (k : Nat) wx, RdT wx sa ps.length sc la cs.length lc ⟨(nv : Int), ps, cs⟩ → Calls Try.prog 14 #[.agg #[.int .i64 nv, .slice sa ps.length sc, .slice la cs.length lc], .int .i64 who, .int .i64 k] wx fun e w' => ∃ a' c' nw xs, e = .returned (.tuple #[.slice a' nw c', .bool (wayB ⟨(nv : Int), ps, cs⟩ who k)]) ∧ Own w' wx.heap.size (.slice a' nw c') xs ∧ Below wx.heap.size wx w') := fun (k : Nat) wx h => by
      have q := implWay_c sa _ sc la _ lc ⟨(nv : Int), ps, cs⟩ who k wx h
      unfold TellI at q
      refine q.mono ?_
      rintro e w' ⟨a', c', h1, h2, h3⟩
      exact ⟨a', c', _, _, h1, h2, h3⟩
    have QOC : Hid (∀ (k : Nat) wx, RdT wx sa ps.length sc la cs.length lc ⟨(nv : Int), ps, cs⟩ → Calls Try.prog 13 #[.agg #[.int .i64 nv, .slice sa ps.length sc, .slice la cs.length lc], .int .i64 who, .int .i64 k, .int .i64 word] wx fun e w' => ∃ (ub : TbV) (sa' : Option Addr) (sc' : Nat) (la' : Option Addr) (lc' : Nat), e = .returned (.tuple #[.agg #[.int .i64 ub.s, .slice sa' ub.ps.length sc', .slice la' ub.cs.length lc'], .bool (wayB ⟨(nv : Int), ps, cs⟩ who k)]) ∧ RdT w' sa' ub.ps.length sc' la' ub.cs.length lc' ub ∧ (wayB ⟨(nv : Int), ps, cs⟩ who k = true → askB ub k word = true ∧ allV ub k word = V) ∧ Below wx.heap.size wx w') := fun (k : Nat) wx h => by
      have q := implOth_c sa _ sc la _ lc ⟨(nv : Int), ps, cs⟩ who k word wx h
      have q1 := oth_told hok (k : Int)
      have q2 := fun hh => oth_all (t := ⟨(nv : Int), ps, cs⟩) (a := who) (b := (k : Int)) (x := word) hh
      unfold TellT at q
      refine q.mono ?_
      rintro e w' ⟨s1, s2, l1, l2, h1, h2, h3⟩
      rw [q1] at h1 q2
      rw [hV] at q2
      exact ⟨_, s1, s2, l1, l2, h1, rdT_of (othV_sm _ _ _ _) h2.rd, q2, h3⟩
    have HCS : Hid ((who = -1 ∧ r = 0) ∨ (0 ≤ who ∧ r = word)) := hcs
    clear hpt hr hsum hcs hnv hV hok hgd
    obtain ⟨w2, hA1⟩ : ∃ X, w1.alloc (.cells #[.int .i64 nv, .slice sa ps.length sc, .slice la cs.length lc] 26) = X := ⟨_, rfl⟩
    have hb : Below w1.heap.size w1 w2 := by rw [← hA1]; exact balloc w1 _
    have B_2 : Hid (Below w.heap.size w w2) := B_1.out.trans (hb.mono B_1.out.size)
    have RT_2 : Hid (RdT w2 sa ps.length sc la cs.length lc ⟨(nv : Int), ps, cs⟩) := RT_1.out.later hb
    have z1 : w1.heap.size ≤ w2.heap.size := hb.size
    clear B_1 RT_1
    clear hb
    have X5_2 : Hid (X3 w2 w1.heap.size (.int .i64 nv) (.slice sa ps.length sc) (.slice la cs.length lc)) := by rw [← hA1]; exact x3_new w1 _ _ _ _ _ rfl
    obtain ⟨⟨uX50, uX51, uX52⟩, uX5z⟩ := id X5_2.out
    go_wp2_with fail
    clear uX50 uX51 uX52 uX5z
    clear hA1
    refine (QAI.out _ RT_2.out).mono ?_
    rintro e w3 ⟨a1, c1, rfl, ho, hb⟩
    have z2 : w2.heap.size ≤ w3.heap.size := hb.size
    have B_3 : Hid (Below w.heap.size w w3) := B_2.out.trans (hb.mono B_2.out.size)
    have RT_3 : Hid (RdT w3 sa ps.length sc la cs.length lc ⟨(nv : Int), ps, cs⟩) := RT_2.out.later hb
    have X5_3 : Hid (X3 w3 w1.heap.size (.int .i64 nv) (.slice sa ps.length sc) (.slice la cs.length lc)) := X5_2.out.later hb
    have V1_3 : Hid (Rd w3 a1 V) := ho.rd'.2
    clear B_2 RT_2 X5_2 hb
    clear ho
    obtain ⟨⟨uX50, uX51, uX52⟩, uX5z⟩ := id X5_3.out
    go_wp2_with fail
    clear uX50 uX51 uX52 uX5z
    refine (QAS.out _ RT_3.out).mono ?_
    rintro e w4 ⟨a2, c2, rfl, ho, hb⟩
    have z3 : w3.heap.size ≤ w4.heap.size := hb.size
    have B_4 : Hid (Below w.heap.size w w4) := B_3.out.trans (hb.mono B_3.out.size)
    have RT_4 : Hid (RdT w4 sa ps.length sc la cs.length lc ⟨(nv : Int), ps, cs⟩) := RT_3.out.later hb
    have X5_4 : Hid (X3 w4 w1.heap.size (.int .i64 nv) (.slice sa ps.length sc) (.slice la cs.length lc)) := X5_3.out.later hb
    have V1_4 : Hid (Rd w4 a1 V) := V1_3.out.later hb
    have V2_4 : Hid (Rd w4 a2 V) := ho.rd'.2
    clear B_3 RT_3 X5_3 V1_3 hb
    clear ho
    go_wp2_with fail
    refine wp_region_held_drew (S := (fun Z => Z.cell? ⟨w1.heap.size, 0, none⟩ = some (.int .i64 nv) ∧ Z.cell? ⟨w1.heap.size, 1, none⟩ = some (.slice sa ps.length sc) ∧ Z.cell? ⟨w1.heap.size, 2, none⟩ = some (.slice la cs.length lc))) (by kernel_rfl) ?_ (fun hHeld => ?_)
    · exact X5_4.out.1
    obtain ⟨v0, hv0⟩ : ∃ D, w4.drew = D := ⟨_, rfl⟩
    have hb0 : Below w4.heap.size w4 v0 := by rw [← hv0]; exact (Below.refl _ _).drew
    rw [hv0] at hHeld ⊢
    have B_5 : Hid (Below w.heap.size w v0) := B_4.out.trans (hb0.mono B_4.out.size)
    have RT_5 : Hid (RdT v0 sa ps.length sc la cs.length lc ⟨(nv : Int), ps, cs⟩) := RT_4.out.later hb0
    have X5_5 : Hid (X3 v0 w1.heap.size (.int .i64 nv) (.slice sa ps.length sc) (.slice la cs.length lc)) := X5_4.out.later hb0
    have V1_5 : Hid (Rd v0 a1 V) := V1_4.out.later hb0
    have V2_5 : Hid (Rd v0 a2 V) := V2_4.out.later hb0
    have z4 : w4.heap.size ≤ v0.heap.size := hb0.size
    clear B_4 RT_4 X5_4 V1_4 V2_4
    clear hb0 hv0
    refine takeDT15 (i := 0) (oi := _) (v := ?_) (d := some 66) rfl (by kernel_rfl) (by kernel_rfl) (by kernel_rfl) (by kernel_rfl) (fun _ _ _ h => h) (Or.inl ⟨by rfl, ?_⟩) (by assumption) ?_
    rotate_left
    · (intro w hSw; (try dsimp only at hSw); go_simp <;> with_reducible rfl)
    try simp only [Act.put, List.setIfInBounds_toArray, List.set_cons_zero, List.set_cons_succ]
    refine takeDT15 (i := 1) (oi := _) (v := ?_) (d := some 67) rfl (by kernel_rfl) (by kernel_rfl) (by kernel_rfl) (by kernel_rfl) (fun _ _ _ h => h) (Or.inl ⟨by rfl, ?_⟩) (by assumption) ?_
    rotate_left
    · (intro w hSw; (try dsimp only at hSw); go_simp <;> with_reducible rfl)
    try simp only [Act.put, List.setIfInBounds_toArray, List.set_cons_zero, List.set_cons_succ]
    refine takeDT15 (i := 2) (oi := _) (v := ?_) (d := some 68) rfl (by kernel_rfl) (by kernel_rfl) (by kernel_rfl) (by kernel_rfl) (fun _ _ _ h => h) (Or.inl ⟨by rfl, ?_⟩) (by assumption) ?_
    rotate_left
    · (intro w hSw; (try dsimp only at hSw); go_simp <;> with_reducible rfl)
    try simp only [Act.put, List.setIfInBounds_toArray, List.set_cons_zero, List.set_cons_succ]
    refine takeDT15 (i := 3) (oi := _) (v := ?_) (d := some 69) rfl (by kernel_rfl) (by kernel_rfl) (by kernel_rfl) (by kernel_rfl) (fun _ _ _ h => h) (Or.inl ⟨by rfl, ?_⟩) (by assumption) ?_
    rotate_left
    · (intro w hSw; (try dsimp only at hSw); go_simp <;> with_reducible rfl)
    try simp only [Act.put, List.setIfInBounds_toArray, List.set_cons_zero, List.set_cons_succ]
    refine takeDT15 (i := 4) (oi := _) (v := ?_) (d := some 70) rfl (by kernel_rfl) (by kernel_rfl) (by kernel_rfl) (by kernel_rfl) (fun _ _ _ h => h) (Or.inl ⟨by rfl, ?_⟩) (by assumption) ?_
    rotate_left
    · (intro w hSw; (try dsimp only at hSw); go_simp <;> with_reducible rfl)
    try simp only [Act.put, List.setIfInBounds_toArray, List.set_cons_zero, List.set_cons_succ]
    refine takeDT15 (i := 5) (oi := _) (v := ?_) (d := some 71) rfl (by kernel_rfl) (by kernel_rfl) (by kernel_rfl) (by kernel_rfl) (fun _ _ _ h => h) (Or.inl ⟨by rfl, ?_⟩) (by assumption) ?_
    rotate_left
    · (intro w hSw; (try dsimp only at hSw); go_simp <;> with_reducible rfl)
    try simp only [Act.put, List.setIfInBounds_toArray, List.set_cons_zero, List.set_cons_succ]
    refine wpAnyH_ready (rs := [6]) (by kernel_rfl) (by simp) ?_
    refine AllReadyH.cons (o := _) rfl (fun K hK => ?_) AllReadyH.nil
    go_simp
    refine (sameInts_c a1 a2 nv nv c1 c2 V V _ HVl.out HVl.out (by omega) (by omega) V1_5.out V2_5.out).mono ?_
    rw [decide_eq_true rfl]
    rintro e v1 ⟨rfl, hb⟩
    have B_6 : Hid (Below w.heap.size w v1) := B_5.out.trans (hb.mono B_5.out.size)
    have RT_6 : Hid (RdT v1 sa ps.length sc la cs.length lc ⟨(nv : Int), ps, cs⟩) := RT_5.out.later hb
    have X5_6 : Hid (X3 v1 w1.heap.size (.int .i64 nv) (.slice sa ps.length sc) (.slice la cs.length lc)) := X5_5.out.later hb
    have V1_6 : Hid (Rd v1 a1 V) := V1_5.out.later hb
    have V2_6 : Hid (Rd v1 a2 V) := V2_5.out.later hb
    have z5 : v0.heap.size ≤ v1.heap.size := hb.size
    clear B_5 RT_5 X5_5 V1_5 V2_5
    clear hb
    refine hK.out _ _ ?_ (fun hHeld => ?_)
    · exact X5_6.out.1
    clear hK K
    try simp only [Act.put, List.setIfInBounds_toArray, List.set_cons_zero, List.set_cons_succ]
    refine takeDT15 (i := 7) (oi := _) (v := ?_) (d := some 73) rfl (by kernel_rfl) (by kernel_rfl) (by kernel_rfl) (by kernel_rfl) (fun _ _ _ h => h) (Or.inl ⟨by rfl, ?_⟩) (by assumption) ?_
    rotate_left
    · (intro w hSw; (try dsimp only at hSw); go_simp <;> with_reducible rfl)
    try simp only [Act.put, List.setIfInBounds_toArray, List.set_cons_zero, List.set_cons_succ]
    refine takeDT15 (i := 8) (oi := _) (v := ?_) (d := some 74) rfl (by kernel_rfl) (by kernel_rfl) (by kernel_rfl) (by kernel_rfl) (fun _ _ _ h => h) (Or.inl ⟨by rfl, ?_⟩) (by assumption) ?_
    rotate_left
    · (intro w hSw; (try dsimp only at hSw); go_simp <;> with_reducible rfl)
    try simp only [Act.put, List.setIfInBounds_toArray, List.set_cons_zero, List.set_cons_succ]
    refine takeDT15 (i := 9) (oi := _) (v := ?_) (d := some 75) rfl (by kernel_rfl) (by kernel_rfl) (by kernel_rfl) (by kernel_rfl) (fun _ _ _ h => h) (Or.inl ⟨by rfl, ?_⟩) (by assumption) ?_
    rotate_left
    · (intro w hSw; (try dsimp only at hSw); go_simp <;> with_reducible rfl)
    try simp only [Act.put, List.setIfInBounds_toArray, List.set_cons_zero, List.set_cons_succ]
    refine takeDT15 (i := 10) (oi := _) (v := ?_) (d := some 76) rfl (by kernel_rfl) (by kernel_rfl) (by kernel_rfl) (by kernel_rfl) (fun _ _ _ h => h) (Or.inl ⟨by rfl, ?_⟩) (by assumption) ?_
    rotate_left
    · (intro w hSw; (try dsimp only at hSw); go_simp <;> with_reducible rfl)
    try simp only [Act.put, List.setIfInBounds_toArray, List.set_cons_zero, List.set_cons_succ]
    refine takeDT15 (i := 12) (oi := _) (v := ?_) (d := some 78) rfl (by kernel_rfl) (by kernel_rfl) (by kernel_rfl) (by kernel_rfl) (fun _ _ _ h => h) (Or.inl ⟨by rfl, ?_⟩) (by assumption) ?_
    rotate_left
    · (intro w hSw; (try dsimp only at hSw); go_simp <;> with_reducible rfl)
    try simp only [Act.put, List.setIfInBounds_toArray, List.set_cons_zero, List.set_cons_succ]
    refine wpAnyH_ready (rs := [11]) (by kernel_rfl) (by simp) ?_
    refine AllReadyH.cons (o := _) rfl (fun K hK => ?_) AllReadyH.nil
    go_simp
    refine (QGI.out _ RT_6.out).mono ?_
    rintro e v2 ⟨rfl, hb⟩
    have B_7 : Hid (Below w.heap.size w v2) := B_6.out.trans (hb.mono B_6.out.size)
    have RT_7 : Hid (RdT v2 sa ps.length sc la cs.length lc ⟨(nv : Int), ps, cs⟩) := RT_6.out.later hb
    have X5_7 : Hid (X3 v2 w1.heap.size (.int .i64 nv) (.slice sa ps.length sc) (.slice la cs.length lc)) := X5_6.out.later hb
    have V1_7 : Hid (Rd v2 a1 V) := V1_6.out.later hb
    have V2_7 : Hid (Rd v2 a2 V) := V2_6.out.later hb
    have z6 : v1.heap.size ≤ v2.heap.size := hb.size
    clear B_6 RT_6 X5_6 V1_6 V2_6
    clear hb
    refine hK.out _ _ ?_ (fun hHeld => ?_)
    · exact X5_7.out.1
    clear hK K
    try simp only [Act.put, List.setIfInBounds_toArray, List.set_cons_zero, List.set_cons_succ]
    refine wpAnyH_ready (rs := [13]) (by kernel_rfl) (by simp) ?_
    refine AllReadyH.cons (o := _) rfl (fun K hK => ?_) AllReadyH.nil
    go_simp
    refine (QGS.out _ RT_7.out).mono ?_
    rintro e v3 ⟨rfl, hb⟩
    have B_8 : Hid (Below w.heap.size w v3) := B_7.out.trans (hb.mono B_7.out.size)
    have RT_8 : Hid (RdT v3 sa ps.length sc la cs.length lc ⟨(nv : Int), ps, cs⟩) := RT_7.out.later hb
    have X5_8 : Hid (X3 v3 w1.heap.size (.int .i64 nv) (.slice sa ps.length sc) (.slice la cs.length lc)) := X5_7.out.later hb
    have V1_8 : Hid (Rd v3 a1 V) := V1_7.out.later hb
    have V2_8 : Hid (Rd v3 a2 V) := V2_7.out.later hb
    have z7 : v2.heap.size ≤ v3.heap.size := hb.size
    clear B_7 RT_7 X5_7 V1_7 V2_7
    clear hb
    refine hK.out _ _ ?_ (fun hHeld => ?_)
    · exact X5_8.out.1
    clear hK K
    try simp only [Act.put, List.setIfInBounds_toArray, List.set_cons_zero, List.set_cons_succ]
    have hgg : (gd != gd) = false := by simp
    refine takeDT15 (i := 14) (oi := _) (v := ?_) (d := some 80) rfl (by kernel_rfl) (by kernel_rfl) (by kernel_rfl) (by kernel_rfl) (fun _ _ _ h => h) (Or.inl ⟨by rfl, ?_⟩) (by assumption) ?_
    rotate_left
    · (intro w hSw; (try dsimp only at hSw); go_simp <;> with_reducible rfl)
    try simp only [Act.put, List.setIfInBounds_toArray, List.set_cons_zero, List.set_cons_succ]
    refine takeDT15 (i := 15) (oi := _) (v := ?_) (d := some 81) rfl (by kernel_rfl) (by kernel_rfl) (by kernel_rfl) (by kernel_rfl) (fun _ _ _ h => h) (Or.inl ⟨by rfl, ?_⟩) (by assumption) ?_
    rotate_left
    · (intro w hSw; (try dsimp only at hSw); go_simp <;> with_reducible rfl)
    try simp only [Act.put, List.setIfInBounds_toArray, List.set_cons_zero, List.set_cons_succ]
    refine wpAnyH_done (by kernel_rfl) ?_ _
    clear hHeld
    clear V2_8
    go_wp2_with fail
    refine (QSU.out _ _ _ V1_8.out).mono ?_
    rintro e w9 ⟨rfl, hb⟩
    have z8 : v3.heap.size ≤ w9.heap.size := hb.size
    have B_9 : Hid (Below w.heap.size w w9) := B_8.out.trans (hb.mono B_8.out.size)
    have RT_9 : Hid (RdT w9 sa ps.length sc la cs.length lc ⟨(nv : Int), ps, cs⟩) := RT_8.out.later hb
    have X5_9 : Hid (X3 w9 w1.heap.size (.int .i64 nv) (.slice sa ps.length sc) (.slice la cs.length lc)) := X5_8.out.later hb
    have V1_9 : Hid (Rd w9 a1 V) := V1_8.out.later hb
    clear B_8 RT_8 X5_8 V1_8 hb
    obtain ⟨⟨u0, u1, u2⟩, uz⟩ := id X5_9.out
    have hwh : (0 ≤ who ∧ r = word) ∨ (who = -1 ∧ r = 0) := HCS.out.symm
    have hnn : ((nv : Int) != (nv : Int)) = false := by simp
    rcases hwh with hwh | hwh
    · have hw0 : (0 : Int) ≤ who := hwh.1
      have hw0b : ¬ who < 0 := by omega
      obtain rfl : r = word := hwh.2
      have hrr : (r != r) = false := by simp
      clear hwh HCS
      go_wp2
      clear u0 u1 u2 uz
      go_loopw [14] (fun iv wr => ∃ k : Nat, k ≤ nv ∧ iv = .int .i64 k ∧ Hid (Below w9.heap.size w9 wr)) (fun iv _ => nv - (intOf iv).toNat)
      case atStart => exact ⟨0, Nat.zero_le _, rfl, Below.refl _ _⟩
      case round =>
        obtain ⟨k, hk, rfl, HBL⟩ := hrel
        have B_10 : Hid (Below w.heap.size w wr) := B_9.out.trans (HBL.out.mono B_9.out.size)
        have RT_10 : Hid (RdT wr sa ps.length sc la cs.length lc ⟨(nv : Int), ps, cs⟩) := RT_9.out.later HBL.out
        have X5_10 : Hid (X3 wr w1.heap.size (.int .i64 nv) (.slice sa ps.length sc) (.slice la cs.length lc)) := X5_9.out.later HBL.out
        have V1_10 : Hid (Rd wr a1 V) := V1_9.out.later HBL.out
        have z9 : w9.heap.size ≤ wr.heap.size := HBL.out.size
        clear B_9 RT_9 X5_9 V1_9
        obtain ⟨⟨u0, u1, u2⟩, uz⟩ := id X5_10.out
        by_cases hlt : k < nv
        · have k0 : (0 : Int) ≤ (k : Int) := by omega
          have k1 : (k : Int) < (nv : Int) := by omega
          go_wp2_with fail
          refine (QSA.out k _ ⟨hlt, RT_10.out⟩).mono ?_
          clear u0 u1 u2 uz
          rintro e wq ⟨rfl, hb⟩
          have HB9 : Hid (Below w9.heap.size w9 wq) := HBL.out.trans (hb.mono HBL.out.size)
          obtain ⟨b1, o1, rfl, g1⟩ := (V1_10.out.later hb).get (k := k) (by rw [HVl.out]; exact hlt)
          clear hb
          generalize V.getD k 0 = v at g1 ⊢
          have hvv : (v != v) = false := by simp
          go_wp2
          go_roundw
          case rel => exact ⟨k + 1, by omega, by go_num, HB9⟩
          case measure => simp [intOf]; omega
        · obtain rfl : k = nv := by omega
          have hkk : ¬ (k : Int) < (k : Int) := by omega
          go_wp2
          clear u0 u1 u2 uz
          clear HBL
          obtain ⟨wp, hwp⟩ : ∃ X, X = wr := ⟨_, rfl⟩
          subst hwp
          go_loopw [17] (fun iv wr => ∃ j : Nat, j ≤ k ∧ iv = .int .i64 j ∧ Hid (Below wp.heap.size wp wr)) (fun iv _ => k - (intOf iv).toNat)
          case atStart => exact ⟨0, Nat.zero_le _, rfl, Below.refl _ _⟩
          case round =>
            obtain ⟨j, hj, rfl, HBL⟩ := hrel
            have B_11 : Hid (Below w.heap.size w wr) := B_10.out.trans (HBL.out.mono B_10.out.size)
            have RT_11 : Hid (RdT wr sa ps.length sc la cs.length lc ⟨(k : Int), ps, cs⟩) := RT_10.out.later HBL.out
            have X5_11 : Hid (X3 wr w1.heap.size (.int .i64 k) (.slice sa ps.length sc) (.slice la cs.length lc)) := X5_10.out.later HBL.out
            have V1_11 : Hid (Rd wr a1 V) := V1_10.out.later HBL.out
            have z10 : wp.heap.size ≤ wr.heap.size := HBL.out.size
            clear B_10 RT_10 X5_10 V1_10
            obtain ⟨⟨u0, u1, u2⟩, uz⟩ := id X5_11.out
            by_cases hlt2 : j < k
            · have k0 : (0 : Int) ≤ (j : Int) := by omega
              have k1 : (j : Int) < (k : Int) := by omega
              go_wp2_with fail
              refine (QOC.out j _ RT_11.out).mono ?_
              clear u0 u1 u2 uz
              rintro e y1 ⟨ub, s1, s2, l1, l2, rfl, hru, htold, hb⟩
              have B_12 : Hid (Below w.heap.size w y1) := B_11.out.trans (hb.mono B_11.out.size)
              have RT_12 : Hid (RdT y1 sa ps.length sc la cs.length lc ⟨(k : Int), ps, cs⟩) := RT_11.out.later hb
              have X5_12 : Hid (X3 y1 w1.heap.size (.int .i64 k) (.slice sa ps.length sc) (.slice la cs.length lc)) := X5_11.out.later hb
              have V1_12 : Hid (Rd y1 a1 V) := V1_11.out.later hb
              have z11 : wr.heap.size ≤ y1.heap.size := hb.size
              clear B_11 RT_11 X5_11 V1_11
              have HB9 : Hid (Below wp.heap.size wp y1) := HBL.out.trans (hb.mono HBL.out.size)
              clear hb HBL
              have RU_12 : Hid (RdT y1 s1 ub.ps.length s2 l1 ub.cs.length l2 ub) := hru
              clear hru
              have C9_12 : Hid (Below wp.heap.size wp y1) := HB9
              clear HB9
              obtain ⟨w13, hA12⟩ : ∃ X, y1.alloc (.cells #[.int .i64 ub.s, .slice s1 ub.ps.length s2, .slice l1 ub.cs.length l2] 26) = X := ⟨_, rfl⟩
              have hb : Below y1.heap.size y1 w13 := by rw [← hA12]; exact balloc y1 _
              have B_13 : Hid (Below w.heap.size w w13) := B_12.out.trans (hb.mono B_12.out.size)
              have RT_13 : Hid (RdT w13 sa ps.length sc la cs.length lc ⟨(k : Int), ps, cs⟩) := RT_12.out.later hb
              have X5_13 : Hid (X3 w13 w1.heap.size (.int .i64 k) (.slice sa ps.length sc) (.slice la cs.length lc)) := X5_12.out.later hb
              have V1_13 : Hid (Rd w13 a1 V) := V1_12.out.later hb
              have RU_13 : Hid (RdT w13 s1 ub.ps.length s2 l1 ub.cs.length l2 ub) := RU_12.out.later hb
              have C9_13 : Hid (Below wp.heap.size wp w13) := C9_12.out.trans (hb.mono C9_12.out.size)
              have z12 : y1.heap.size ≤ w13.heap.size := hb.size
              clear B_12 RT_12 X5_12 V1_12 RU_12 C9_12
              clear hb
              have X18_13 : Hid (X3 w13 y1.heap.size (.int .i64 ub.s) (.slice s1 ub.ps.length s2) (.slice l1 ub.cs.length l2)) := by rw [← hA12]; exact x3_new y1 _ _ _ _ _ rfl
              obtain ⟨⟨uX50, uX51, uX52⟩, uX5z⟩ := id X5_13.out
              go_wp2_with fail
              clear uX50 uX51 uX52 uX5z
              clear hA12
              refine (QWB.out j _ RT_13.out).mono ?_
              rintro e w14 ⟨a7, c7, nw, xs, rfl, ho, hb⟩
              have z13 : w13.heap.size ≤ w14.heap.size := hb.size
              have B_14 : Hid (Below w.heap.size w w14) := B_13.out.trans (hb.mono B_13.out.size)
              have RT_14 : Hid (RdT w14 sa ps.length sc la cs.length lc ⟨(k : Int), ps, cs⟩) := RT_13.out.later hb
              have X5_14 : Hid (X3 w14 w1.heap.size (.int .i64 k) (.slice sa ps.length sc) (.slice la cs.length lc)) := X5_13.out.later hb
              have V1_14 : Hid (Rd w14 a1 V) := V1_13.out.later hb
              have RU_14 : Hid (RdT w14 s1 ub.ps.length s2 l1 ub.cs.length l2 ub) := RU_13.out.later hb
              have C9_14 : Hid (Below wp.heap.size wp w14) := C9_13.out.trans (hb.mono C9_13.out.size)
              have X18_14 : Hid (X3 w14 y1.heap.size (.int .i64 ub.s) (.slice s1 ub.ps.length s2) (.slice l1 ub.cs.length l2)) := X18_13.out.later hb
              clear B_13 RT_13 X5_13 V1_13 RU_13 C9_13 X18_13 hb
              clear ho
              obtain ⟨qb, hqb⟩ : ∃ q, wayB ⟨(k : Int), ps, cs⟩ who j = q := ⟨_, rfl⟩
              rw [hqb] at htold ⊢
              clear hqb
              cases qb
              · clear htold
                go_wp2
                go_roundw
                case rel => exact ⟨j + 1, by omega, by go_num, C9_14⟩
                case measure => simp [intOf]; omega
              · obtain ⟨yy1, yy2⟩ := htold rfl
                clear htold
                have HQ : Hid (∀ wx, RdT wx s1 ub.ps.length s2 l1 ub.cs.length l2 ub → Calls Try.prog 6 #[.agg #[.int .i64 ub.s, .slice s1 ub.ps.length s2, .slice l1 ub.cs.length l2], .int .i64 j, .int .i64 r] wx fun e w' => ∃ a' c', e = .returned (.tuple #[.slice a' k c', .bool true]) ∧ Own w' wx.heap.size (.slice a' k c') V ∧ Below wx.heap.size wx w') := fun wx h => by
                  have q := implAll_c s1 _ s2 l1 _ l2 ub j r wx h
                  unfold TellI at q
                  rw [yy1, yy2, HVl.out] at q
                  exact q
                clear yy1 yy2
                obtain ⟨⟨uX180, uX181, uX182⟩, uX18z⟩ := id X18_14.out
                go_wp2_with fail
                clear uX180 uX181 uX182 uX18z
                refine (HQ.out _ RU_14.out).mono ?_
                rintro e w15 ⟨a8, c8, rfl, ho, hb⟩
                have z14 : w14.heap.size ≤ w15.heap.size := hb.size
                have B_15 : Hid (Below w.heap.size w w15) := B_14.out.trans (hb.mono B_14.out.size)
                have RT_15 : Hid (RdT w15 sa ps.length sc la cs.length lc ⟨(k : Int), ps, cs⟩) := RT_14.out.later hb
                have X5_15 : Hid (X3 w15 w1.heap.size (.int .i64 k) (.slice sa ps.length sc) (.slice la cs.length lc)) := X5_14.out.later hb
                have V1_15 : Hid (Rd w15 a1 V) := V1_14.out.later hb
                have RU_15 : Hid (RdT w15 s1 ub.ps.length s2 l1 ub.cs.length l2 ub) := RU_14.out.later hb
                have C9_15 : Hid (Below wp.heap.size wp w15) := C9_14.out.trans (hb.mono C9_14.out.size)
                have X18_15 : Hid (X3 w15 y1.heap.size (.int .i64 ub.s) (.slice s1 ub.ps.length s2) (.slice l1 ub.cs.length l2)) := X18_14.out.later hb
                have V8_15 : Hid (Rd w15 a8 V) := ho.rd'.2
                clear B_14 RT_14 X5_14 V1_14 RU_14 C9_14 X18_14 hb
                clear ho
                go_wp2_with fail
                refine (sameInts_c a8 a1 k k c8 c1 V V _ HVl.out HVl.out (by omega) (by omega) V8_15.out V1_15.out).mono ?_
                rw [decide_eq_true rfl]
                rintro e w16 ⟨rfl, hb⟩
                have z15 : w15.heap.size ≤ w16.heap.size := hb.size
                have B_16 : Hid (Below w.heap.size w w16) := B_15.out.trans (hb.mono B_15.out.size)
                have RT_16 : Hid (RdT w16 sa ps.length sc la cs.length lc ⟨(k : Int), ps, cs⟩) := RT_15.out.later hb
                have X5_16 : Hid (X3 w16 w1.heap.size (.int .i64 k) (.slice sa ps.length sc) (.slice la cs.length lc)) := X5_15.out.later hb
                have V1_16 : Hid (Rd w16 a1 V) := V1_15.out.later hb
                have RU_16 : Hid (RdT w16 s1 ub.ps.length s2 l1 ub.cs.length l2 ub) := RU_15.out.later hb
                have C9_16 : Hid (Below wp.heap.size wp w16) := C9_15.out.trans (hb.mono C9_15.out.size)
                have X18_16 : Hid (X3 w16 y1.heap.size (.int .i64 ub.s) (.slice s1 ub.ps.length s2) (.slice l1 ub.cs.length l2)) := X18_15.out.later hb
                have V8_16 : Hid (Rd w16 a8 V) := V8_15.out.later hb
                clear B_15 RT_15 X5_15 V1_15 RU_15 C9_15 X18_15 V8_15 hb
                go_wp2
                go_roundw
                case rel => exact ⟨j + 1, by omega, by go_num, C9_16⟩
                case measure => simp [intOf]; omega
            · obtain rfl : j = k := by omega
              have hjj : ¬ (j : Int) < (j : Int) := by omega
              go_wp2_with fail
              clear u0 u1 u2 uz HBL
              clear V1_11
              clear X5_11
              clear RT_11
              clear QAI QAS QGI QGS QSU QSA QWB QOC
              refine (drawOth_c bo m d _ hm (HM.out.later B_11.out B_11.out.size)).mono ?_
              rintro e w12 ⟨t2, sb, sd, lb, ld, oa, ob, ow, rfl, hts, hrd, hsm, hb⟩
              have z11 : wr.heap.size ≤ w12.heap.size := hb.size
              have B_12 : Hid (Below w.heap.size w w12) := B_11.out.trans (hb.mono B_11.out.size)
              clear B_11 hb
              have RT2_12 : Hid (RdT w12 sb t2.ps.length sd lb t2.cs.length ld t2) := hrd
              clear hrd hsm hts
              obtain ⟨nb, hnb⟩ : ∃ x, othV t2 oa ob ow = x := ⟨_, rfl⟩
              obtain ⟨fb, hfb⟩ : ∃ x, othB t2 oa ob ow = x := ⟨_, rfl⟩
              have HNS : Hid (SmallTb nb) := by rw [← hnb]; exact othV_sm _ _ _ _
              have ROI : Hid (∀ wx, RdT wx sb t2.ps.length sd lb t2.cs.length ld t2 → Calls Try.prog 13 #[.agg #[.int .i64 t2.s, .slice sb t2.ps.length sd, .slice lb t2.cs.length ld], .int .i64 oa, .int .i64 ob, .int .i64 ow] wx fun e w' => ∃ (sa' : Option Addr) (sc' : Nat) (la' : Option Addr) (lc' : Nat), e = .returned (.tuple #[.agg #[.int .i64 nb.s, .slice sa' nb.ps.length sc', .slice la' nb.cs.length lc'], .bool fb]) ∧ RdT w' sa' nb.ps.length sc' la' nb.cs.length lc' nb ∧ Below wx.heap.size wx w') := fun wx h => by
                have q := implOth_c sb _ sd lb _ ld t2 oa ob ow wx h
                unfold TellT at q
                rw [hnb, hfb] at q
                refine q.mono ?_
                rintro e w' ⟨s1, s2, l1, l2, h1, h2, h3⟩
                exact ⟨s1, s2, l1, l2, h1, rdT_of HNS.out h2.rd, h3⟩
              have ROS : Hid (∀ wx, RdT wx sb t2.ps.length sd lb t2.cs.length ld t2 → Calls Try.prog 16 #[.agg #[.int .i64 t2.s, .slice sb t2.ps.length sd, .slice lb t2.cs.length ld], .int .i64 oa, .int .i64 ob, .int .i64 ow] wx fun e w' => ∃ (sa' : Option Addr) (sc' : Nat) (la' : Option Addr) (lc' : Nat), e = .returned (.tuple #[.agg #[.int .i64 nb.s, .slice sa' nb.ps.length sc', .slice la' nb.cs.length lc'], .bool fb]) ∧ RdT w' sa' nb.ps.length sc' la' nb.cs.length lc' nb ∧ Below wx.heap.size wx w') := fun wx h => by
                have q := specOth_c sb _ sd lb _ ld t2 oa ob ow wx h
                unfold TellT at q
                rw [hnb, hfb] at q
                refine q.mono ?_
                rintro e w' ⟨s1, s2, l1, l2, h1, h2, h3⟩
                exact ⟨s1, s2, l1, l2, h1, rdT_of HNS.out h2.rd, h3⟩
              clear hnb hfb
              have hff : (fb == fb) = true := by simp
              obtain ⟨w13, hA12⟩ : ∃ X, w12.alloc (.cells #[.int .i64 t2.s, .slice sb t2.ps.length sd, .slice lb t2.cs.length ld] 26) = X := ⟨_, rfl⟩
              have hb : Below w12.heap.size w12 w13 := by rw [← hA12]; exact balloc w12 _
              have B_13 : Hid (Below w.heap.size w w13) := B_12.out.trans (hb.mono B_12.out.size)
              have RT2_13 : Hid (RdT w13 sb t2.ps.length sd lb t2.cs.length ld t2) := RT2_12.out.later hb
              have z12 : w12.heap.size ≤ w13.heap.size := hb.size
              clear B_12 RT2_12
              clear hb
              have X24_13 : Hid (X3 w13 w12.heap.size (.int .i64 t2.s) (.slice sb t2.ps.length sd) (.slice lb t2.cs.length ld)) := by rw [← hA12]; exact x3_new w12 _ _ _ _ _ rfl
              obtain ⟨⟨uX240, uX241, uX242⟩, uX24z⟩ := id X24_13.out
              go_wp2_with fail
              clear uX240 uX241 uX242 uX24z
              clear hA12
              refine (ROI.out _ RT2_13.out).mono ?_
              rintro e w14 ⟨p8, q8, r8, s8, rfl, hrd, hb⟩
              have z13 : w13.heap.size ≤ w14.heap.size := hb.size
              have B_14 : Hid (Below w.heap.size w w14) := B_13.out.trans (hb.mono B_13.out.size)
              have RT2_14 : Hid (RdT w14 sb t2.ps.length sd lb t2.cs.length ld t2) := RT2_13.out.later hb
              have X24_14 : Hid (X3 w14 w12.heap.size (.int .i64 t2.s) (.slice sb t2.ps.length sd) (.slice lb t2.cs.length ld)) := X24_13.out.later hb
              have N8_14 : Hid (RdT w14 p8 nb.ps.length q8 r8 nb.cs.length s8 nb) := hrd
              clear B_13 RT2_13 X24_13 hb
              clear hrd
              obtain ⟨w15, hA14⟩ : ∃ X, w14.alloc (.cells #[.int .i64 nb.s, .slice p8 nb.ps.length q8, .slice r8 nb.cs.length s8] 26) = X := ⟨_, rfl⟩
              have hb : Below w14.heap.size w14 w15 := by rw [← hA14]; exact balloc w14 _
              have B_15 : Hid (Below w.heap.size w w15) := B_14.out.trans (hb.mono B_14.out.size)
              have RT2_15 : Hid (RdT w15 sb t2.ps.length sd lb t2.cs.length ld t2) := RT2_14.out.later hb
              have X24_15 : Hid (X3 w15 w12.heap.size (.int .i64 t2.s) (.slice sb t2.ps.length sd) (.slice lb t2.cs.length ld)) := X24_14.out.later hb
              have N8_15 : Hid (RdT w15 p8 nb.ps.length q8 r8 nb.cs.length s8 nb) := N8_14.out.later hb
              have z14 : w14.heap.size ≤ w15.heap.size := hb.size
              clear B_14 RT2_14 X24_14 N8_14
              clear hb
              have Y8_15 : Hid (X3 w15 w14.heap.size (.int .i64 nb.s) (.slice p8 nb.ps.length q8) (.slice r8 nb.cs.length s8)) := by rw [← hA14]; exact x3_new w14 _ _ _ _ _ rfl
              obtain ⟨⟨uX240, uX241, uX242⟩, uX24z⟩ := id X24_15.out
              go_wp2_with fail
              clear uX240 uX241 uX242 uX24z
              clear hA14
              refine (ROS.out _ RT2_15.out).mono ?_
              rintro e w16 ⟨p9, q9, r9, s9, rfl, hrd, hb⟩
              have z15 : w15.heap.size ≤ w16.heap.size := hb.size
              have B_16 : Hid (Below w.heap.size w w16) := B_15.out.trans (hb.mono B_15.out.size)
              have RT2_16 : Hid (RdT w16 sb t2.ps.length sd lb t2.cs.length ld t2) := RT2_15.out.later hb
              have X24_16 : Hid (X3 w16 w12.heap.size (.int .i64 t2.s) (.slice sb t2.ps.length sd) (.slice lb t2.cs.length ld)) := X24_15.out.later hb
              have N8_16 : Hid (RdT w16 p8 nb.ps.length q8 r8 nb.cs.length s8 nb) := N8_15.out.later hb
              have Y8_16 : Hid (X3 w16 w14.heap.size (.int .i64 nb.s) (.slice p8 nb.ps.length q8) (.slice r8 nb.cs.length s8)) := Y8_15.out.later hb
              have N9_16 : Hid (RdT w16 p9 nb.ps.length q9 r9 nb.cs.length s9 nb) := hrd
              clear B_15 RT2_15 X24_15 N8_15 Y8_15 hb
              clear hrd
              obtain ⟨w17, hA16⟩ : ∃ X, w16.alloc (.cells #[.int .i64 nb.s, .slice p9 nb.ps.length q9, .slice r9 nb.cs.length s9] 26) = X := ⟨_, rfl⟩
              have hb : Below w16.heap.size w16 w17 := by rw [← hA16]; exact balloc w16 _
              have B_17 : Hid (Below w.heap.size w w17) := B_16.out.trans (hb.mono B_16.out.size)
              have RT2_17 : Hid (RdT w17 sb t2.ps.length sd lb t2.cs.length ld t2) := RT2_16.out.later hb
              have X24_17 : Hid (X3 w17 w12.heap.size (.int .i64 t2.s) (.slice sb t2.ps.length sd) (.slice lb t2.cs.length ld)) := X24_16.out.later hb
              have N8_17 : Hid (RdT w17 p8 nb.ps.length q8 r8 nb.cs.length s8 nb) := N8_16.out.later hb
              have Y8_17 : Hid (X3 w17 w14.heap.size (.int .i64 nb.s) (.slice p8 nb.ps.length q8) (.slice r8 nb.cs.length s8)) := Y8_16.out.later hb
              have N9_17 : Hid (RdT w17 p9 nb.ps.length q9 r9 nb.cs.length s9 nb) := N9_16.out.later hb
              have z16 : w16.heap.size ≤ w17.heap.size := hb.size
              clear B_16 RT2_16 X24_16 N8_16 Y8_16 N9_16
              clear hb
              have Y9_17 : Hid (X3 w17 w16.heap.size (.int .i64 nb.s) (.slice p9 nb.ps.length q9) (.slice r9 nb.cs.length s9)) := by rw [← hA16]; exact x3_new w16 _ _ _ _ _ rfl
              clear X24_17
              clear RT2_17
              go_wp2_with fail
              clear hA16
              refine (drawSayAt_c bo m d _ hm (HM.out.later B_17.out B_17.out.size)).mono ?_
              rintro e w18 ⟨t3, se, sf, le, lf, vs, vw, vo, rfl, hts, hrd, hsm, hb⟩
              have z17 : w17.heap.size ≤ w18.heap.size := hb.size
              have B_18 : Hid (Below w.heap.size w w18) := B_17.out.trans (hb.mono B_17.out.size)
              have N8_18 : Hid (RdT w18 p8 nb.ps.length q8 r8 nb.cs.length s8 nb) := N8_17.out.later hb
              have Y8_18 : Hid (X3 w18 w14.heap.size (.int .i64 nb.s) (.slice p8 nb.ps.length q8) (.slice r8 nb.cs.length s8)) := Y8_17.out.later hb
              have N9_18 : Hid (RdT w18 p9 nb.ps.length q9 r9 nb.cs.length s9 nb) := N9_17.out.later hb
              have Y9_18 : Hid (X3 w18 w16.heap.size (.int .i64 nb.s) (.slice p9 nb.ps.length q9) (.slice r9 nb.cs.length s9)) := Y9_17.out.later hb
              clear B_17 N8_17 Y8_17 N9_17 Y9_17 hb
              have RT3_18 : Hid (RdT w18 se t3.ps.length sf le t3.cs.length lf t3) := hrd
              clear hrd hsm hts ROI ROS
              obtain ⟨xv, hxv⟩ : ∃ x, saV t3 vs vw vo = x := ⟨_, rfl⟩
              obtain ⟨xb, hxb⟩ : ∃ x, saB t3 vs vw vo = x := ⟨_, rfl⟩
              have RSI : Hid (∀ wx, RdT wx se t3.ps.length sf le t3.cs.length lf t3 → Calls Try.prog 12 #[.agg #[.int .i64 t3.s, .slice se t3.ps.length sf, .slice le t3.cs.length lf], .int .i64 vs, .int .i64 vw, .int .i64 vo] wx fun e w' => e = .returned (.tuple #[.int .i64 xv, .bool xb]) ∧ Below wx.heap.size wx w') := fun wx h => by
                have q := implSayAt_c se _ sf le _ lf t3 vs vw vo wx h
                rw [hxv, hxb] at q
                exact q
              have RSS : Hid (∀ wx, RdT wx se t3.ps.length sf le t3.cs.length lf t3 → Calls Try.prog 18 #[.agg #[.int .i64 t3.s, .slice se t3.ps.length sf, .slice le t3.cs.length lf], .int .i64 vs, .int .i64 vw, .int .i64 vo] wx fun e w' => e = .returned (.tuple #[.int .i64 xv, .bool xb]) ∧ Below wx.heap.size wx w') := fun wx h => by
                have q := specSayAt_c se _ sf le _ lf t3 vs vw vo wx h
                rw [hxv, hxb] at q
                exact q
              clear hxv hxb
              have hxx : (xb == xb) = true := by simp
              have hvx : (xv == xv) = true := by simp
              obtain ⟨w19, hA18⟩ : ∃ X, w18.alloc (.cells #[.int .i64 t3.s, .slice se t3.ps.length sf, .slice le t3.cs.length lf] 26) = X := ⟨_, rfl⟩
              have hb : Below w18.heap.size w18 w19 := by rw [← hA18]; exact balloc w18 _
              have B_19 : Hid (Below w.heap.size w w19) := B_18.out.trans (hb.mono B_18.out.size)
              have N8_19 : Hid (RdT w19 p8 nb.ps.length q8 r8 nb.cs.length s8 nb) := N8_18.out.later hb
              have Y8_19 : Hid (X3 w19 w14.heap.size (.int .i64 nb.s) (.slice p8 nb.ps.length q8) (.slice r8 nb.cs.length s8)) := Y8_18.out.later hb
              have N9_19 : Hid (RdT w19 p9 nb.ps.length q9 r9 nb.cs.length s9 nb) := N9_18.out.later hb
              have Y9_19 : Hid (X3 w19 w16.heap.size (.int .i64 nb.s) (.slice p9 nb.ps.length q9) (.slice r9 nb.cs.length s9)) := Y9_18.out.later hb
              have RT3_19 : Hid (RdT w19 se t3.ps.length sf le t3.cs.length lf t3) := RT3_18.out.later hb
              have z18 : w18.heap.size ≤ w19.heap.size := hb.size
              clear B_18 N8_18 Y8_18 N9_18 Y9_18 RT3_18
              clear hb
              have X32_19 : Hid (X3 w19 w18.heap.size (.int .i64 t3.s) (.slice se t3.ps.length sf) (.slice le t3.cs.length lf)) := by rw [← hA18]; exact x3_new w18 _ _ _ _ _ rfl
              obtain ⟨⟨uX320, uX321, uX322⟩, uX32z⟩ := id X32_19.out
              go_wp2_with fail
              clear uX320 uX321 uX322 uX32z
              clear hA18
              refine (RSI.out _ RT3_19.out).mono ?_
              rintro e w20 ⟨rfl, hb⟩
              have z19 : w19.heap.size ≤ w20.heap.size := hb.size
              have B_20 : Hid (Below w.heap.size w w20) := B_19.out.trans (hb.mono B_19.out.size)
              have N8_20 : Hid (RdT w20 p8 nb.ps.length q8 r8 nb.cs.length s8 nb) := N8_19.out.later hb
              have Y8_20 : Hid (X3 w20 w14.heap.size (.int .i64 nb.s) (.slice p8 nb.ps.length q8) (.slice r8 nb.cs.length s8)) := Y8_19.out.later hb
              have N9_20 : Hid (RdT w20 p9 nb.ps.length q9 r9 nb.cs.length s9 nb) := N9_19.out.later hb
              have Y9_20 : Hid (X3 w20 w16.heap.size (.int .i64 nb.s) (.slice p9 nb.ps.length q9) (.slice r9 nb.cs.length s9)) := Y9_19.out.later hb
              have RT3_20 : Hid (RdT w20 se t3.ps.length sf le t3.cs.length lf t3) := RT3_19.out.later hb
              have X32_20 : Hid (X3 w20 w18.heap.size (.int .i64 t3.s) (.slice se t3.ps.length sf) (.slice le t3.cs.length lf)) := X32_19.out.later hb
              clear B_19 N8_19 Y8_19 N9_19 Y9_19 RT3_19 X32_19 hb
              obtain ⟨⟨uX320, uX321, uX322⟩, uX32z⟩ := id X32_20.out
              go_wp2_with fail
              clear uX320 uX321 uX322 uX32z
              refine (RSS.out _ RT3_20.out).mono ?_
              rintro e w21 ⟨rfl, hb⟩
              have z20 : w20.heap.size ≤ w21.heap.size := hb.size
              have B_21 : Hid (Below w.heap.size w w21) := B_20.out.trans (hb.mono B_20.out.size)
              have N8_21 : Hid (RdT w21 p8 nb.ps.length q8 r8 nb.cs.length s8 nb) := N8_20.out.later hb
              have Y8_21 : Hid (X3 w21 w14.heap.size (.int .i64 nb.s) (.slice p8 nb.ps.length q8) (.slice r8 nb.cs.length s8)) := Y8_20.out.later hb
              have N9_21 : Hid (RdT w21 p9 nb.ps.length q9 r9 nb.cs.length s9 nb) := N9_20.out.later hb
              have Y9_21 : Hid (X3 w21 w16.heap.size (.int .i64 nb.s) (.slice p9 nb.ps.length q9) (.slice r9 nb.cs.length s9)) := Y9_20.out.later hb
              have RT3_21 : Hid (RdT w21 se t3.ps.length sf le t3.cs.length lf t3) := RT3_20.out.later hb
              have X32_21 : Hid (X3 w21 w18.heap.size (.int .i64 t3.s) (.slice se t3.ps.length sf) (.slice le t3.cs.length lf)) := X32_20.out.later hb
              clear B_20 N8_20 Y8_20 N9_20 Y9_20 RT3_20 X32_20 hb
              obtain ⟨⟨uY80, uY81, uY82⟩, uY8z⟩ := id Y8_21.out
              obtain ⟨⟨uY90, uY91, uY92⟩, uY9z⟩ := id Y9_21.out
              go_wp2_with fail
              clear uY80 uY81 uY82 uY8z
              clear uY90 uY91 uY92 uY9z
              refine (sameTable_c p8 _ q8 r8 _ s8 p9 q9 r9 s9 nb _ HNS.out N8_21.out N9_21.out).mono ?_
              rintro e w22 ⟨rfl, hb⟩
              have z21 : w21.heap.size ≤ w22.heap.size := hb.size
              have B_22 : Hid (Below w.heap.size w w22) := B_21.out.trans (hb.mono B_21.out.size)
              have N8_22 : Hid (RdT w22 p8 nb.ps.length q8 r8 nb.cs.length s8 nb) := N8_21.out.later hb
              have Y8_22 : Hid (X3 w22 w14.heap.size (.int .i64 nb.s) (.slice p8 nb.ps.length q8) (.slice r8 nb.cs.length s8)) := Y8_21.out.later hb
              have N9_22 : Hid (RdT w22 p9 nb.ps.length q9 r9 nb.cs.length s9 nb) := N9_21.out.later hb
              have Y9_22 : Hid (X3 w22 w16.heap.size (.int .i64 nb.s) (.slice p9 nb.ps.length q9) (.slice r9 nb.cs.length s9)) := Y9_21.out.later hb
              have RT3_22 : Hid (RdT w22 se t3.ps.length sf le t3.cs.length lf t3) := RT3_21.out.later hb
              have X32_22 : Hid (X3 w22 w18.heap.size (.int .i64 t3.s) (.slice se t3.ps.length sf) (.slice le t3.cs.length lf)) := X32_21.out.later hb
              clear B_21 N8_21 Y8_21 N9_21 Y9_21 RT3_21 X32_21 hb
              go_wp2
              go_ret
              exact ⟨rfl, B_22.out⟩
    · obtain ⟨rfl, rfl⟩ := hwh
      clear HCS
      go_wp2
      clear u0 u1 u2 uz
      go_loopw [14] (fun iv wr => ∃ k : Nat, k ≤ nv ∧ iv = .int .i64 k ∧ Hid (Below w9.heap.size w9 wr)) (fun iv _ => nv - (intOf iv).toNat)
      case atStart => exact ⟨0, Nat.zero_le _, rfl, Below.refl _ _⟩
      case round =>
        obtain ⟨k, hk, rfl, HBL⟩ := hrel
        have B_10 : Hid (Below w.heap.size w wr) := B_9.out.trans (HBL.out.mono B_9.out.size)
        have RT_10 : Hid (RdT wr sa ps.length sc la cs.length lc ⟨(nv : Int), ps, cs⟩) := RT_9.out.later HBL.out
        have X5_10 : Hid (X3 wr w1.heap.size (.int .i64 nv) (.slice sa ps.length sc) (.slice la cs.length lc)) := X5_9.out.later HBL.out
        have V1_10 : Hid (Rd wr a1 V) := V1_9.out.later HBL.out
        have z9 : w9.heap.size ≤ wr.heap.size := HBL.out.size
        clear B_9 RT_9 X5_9 V1_9
        obtain ⟨⟨u0, u1, u2⟩, uz⟩ := id X5_10.out
        by_cases hlt : k < nv
        · have k0 : (0 : Int) ≤ (k : Int) := by omega
          have k1 : (k : Int) < (nv : Int) := by omega
          go_wp2_with fail
          refine (QSA.out k _ ⟨hlt, RT_10.out⟩).mono ?_
          clear u0 u1 u2 uz
          rintro e wq ⟨rfl, hb⟩
          have HB9 : Hid (Below w9.heap.size w9 wq) := HBL.out.trans (hb.mono HBL.out.size)
          obtain ⟨b1, o1, rfl, g1⟩ := (V1_10.out.later hb).get (k := k) (by rw [HVl.out]; exact hlt)
          clear hb
          generalize V.getD k 0 = v at g1 ⊢
          have hvv : (v != v) = false := by simp
          go_wp2
          go_roundw
          case rel => exact ⟨k + 1, by omega, by go_num, HB9⟩
          case measure => simp [intOf]; omega
        · obtain rfl : k = nv := by omega
          have hkk : ¬ (k : Int) < (k : Int) := by omega
          go_wp2
          clear u0 u1 u2 uz
          clear HBL
          obtain ⟨wp, hwp⟩ : ∃ X, X = wr := ⟨_, rfl⟩
          subst hwp
          go_loopw [17] (fun iv wr => ∃ j : Nat, j ≤ k ∧ iv = .int .i64 j ∧ Hid (Below wp.heap.size wp wr)) (fun iv _ => k - (intOf iv).toNat)
          case atStart => exact ⟨0, Nat.zero_le _, rfl, Below.refl _ _⟩
          case round =>
            obtain ⟨j, hj, rfl, HBL⟩ := hrel
            have B_11 : Hid (Below w.heap.size w wr) := B_10.out.trans (HBL.out.mono B_10.out.size)
            have RT_11 : Hid (RdT wr sa ps.length sc la cs.length lc ⟨(k : Int), ps, cs⟩) := RT_10.out.later HBL.out
            have X5_11 : Hid (X3 wr w1.heap.size (.int .i64 k) (.slice sa ps.length sc) (.slice la cs.length lc)) := X5_10.out.later HBL.out
            have V1_11 : Hid (Rd wr a1 V) := V1_10.out.later HBL.out
            have z10 : wp.heap.size ≤ wr.heap.size := HBL.out.size
            clear B_10 RT_10 X5_10 V1_10
            obtain ⟨⟨u0, u1, u2⟩, uz⟩ := id X5_11.out
            by_cases hlt2 : j < k
            · have k1 : (j : Int) < (k : Int) := by omega
              go_wp2_with fail
              clear u0 u1 u2 uz HBL
              clear V1_11
              clear X5_11
              clear RT_11
              clear QAI QAS QGI QGS QSU QSA QWB QOC
              refine (drawOth_c bo m d _ hm (HM.out.later B_11.out B_11.out.size)).mono ?_
              rintro e w12 ⟨t2, sb, sd, lb, ld, oa, ob, ow, rfl, hts, hrd, hsm, hb⟩
              have z11 : wr.heap.size ≤ w12.heap.size := hb.size
              have B_12 : Hid (Below w.heap.size w w12) := B_11.out.trans (hb.mono B_11.out.size)
              clear B_11 hb
              have RT2_12 : Hid (RdT w12 sb t2.ps.length sd lb t2.cs.length ld t2) := hrd
              clear hrd hsm hts
              obtain ⟨nb, hnb⟩ : ∃ x, othV t2 oa ob ow = x := ⟨_, rfl⟩
              obtain ⟨fb, hfb⟩ : ∃ x, othB t2 oa ob ow = x := ⟨_, rfl⟩
              have HNS : Hid (SmallTb nb) := by rw [← hnb]; exact othV_sm _ _ _ _
              have ROI : Hid (∀ wx, RdT wx sb t2.ps.length sd lb t2.cs.length ld t2 → Calls Try.prog 13 #[.agg #[.int .i64 t2.s, .slice sb t2.ps.length sd, .slice lb t2.cs.length ld], .int .i64 oa, .int .i64 ob, .int .i64 ow] wx fun e w' => ∃ (sa' : Option Addr) (sc' : Nat) (la' : Option Addr) (lc' : Nat), e = .returned (.tuple #[.agg #[.int .i64 nb.s, .slice sa' nb.ps.length sc', .slice la' nb.cs.length lc'], .bool fb]) ∧ RdT w' sa' nb.ps.length sc' la' nb.cs.length lc' nb ∧ Below wx.heap.size wx w') := fun wx h => by
                have q := implOth_c sb _ sd lb _ ld t2 oa ob ow wx h
                unfold TellT at q
                rw [hnb, hfb] at q
                refine q.mono ?_
                rintro e w' ⟨s1, s2, l1, l2, h1, h2, h3⟩
                exact ⟨s1, s2, l1, l2, h1, rdT_of HNS.out h2.rd, h3⟩
              have ROS : Hid (∀ wx, RdT wx sb t2.ps.length sd lb t2.cs.length ld t2 → Calls Try.prog 16 #[.agg #[.int .i64 t2.s, .slice sb t2.ps.length sd, .slice lb t2.cs.length ld], .int .i64 oa, .int .i64 ob, .int .i64 ow] wx fun e w' => ∃ (sa' : Option Addr) (sc' : Nat) (la' : Option Addr) (lc' : Nat), e = .returned (.tuple #[.agg #[.int .i64 nb.s, .slice sa' nb.ps.length sc', .slice la' nb.cs.length lc'], .bool fb]) ∧ RdT w' sa' nb.ps.length sc' la' nb.cs.length lc' nb ∧ Below wx.heap.size wx w') := fun wx h => by
                have q := specOth_c sb _ sd lb _ ld t2 oa ob ow wx h
                unfold TellT at q
                rw [hnb, hfb] at q
                refine q.mono ?_
                rintro e w' ⟨s1, s2, l1, l2, h1, h2, h3⟩
                exact ⟨s1, s2, l1, l2, h1, rdT_of HNS.out h2.rd, h3⟩
              clear hnb hfb
              have hff : (fb == fb) = true := by simp
              obtain ⟨w13, hA12⟩ : ∃ X, w12.alloc (.cells #[.int .i64 t2.s, .slice sb t2.ps.length sd, .slice lb t2.cs.length ld] 26) = X := ⟨_, rfl⟩
              have hb : Below w12.heap.size w12 w13 := by rw [← hA12]; exact balloc w12 _
              have B_13 : Hid (Below w.heap.size w w13) := B_12.out.trans (hb.mono B_12.out.size)
              have RT2_13 : Hid (RdT w13 sb t2.ps.length sd lb t2.cs.length ld t2) := RT2_12.out.later hb
              have z12 : w12.heap.size ≤ w13.heap.size := hb.size
              clear B_12 RT2_12
              clear hb
              have X24_13 : Hid (X3 w13 w12.heap.size (.int .i64 t2.s) (.slice sb t2.ps.length sd) (.slice lb t2.cs.length ld)) := by rw [← hA12]; exact x3_new w12 _ _ _ _ _ rfl
              obtain ⟨⟨uX240, uX241, uX242⟩, uX24z⟩ := id X24_13.out
              go_wp2_with fail
              clear uX240 uX241 uX242 uX24z
              clear hA12
              refine (ROI.out _ RT2_13.out).mono ?_
              rintro e w14 ⟨p8, q8, r8, s8, rfl, hrd, hb⟩
              have z13 : w13.heap.size ≤ w14.heap.size := hb.size
              have B_14 : Hid (Below w.heap.size w w14) := B_13.out.trans (hb.mono B_13.out.size)
              have RT2_14 : Hid (RdT w14 sb t2.ps.length sd lb t2.cs.length ld t2) := RT2_13.out.later hb
              have X24_14 : Hid (X3 w14 w12.heap.size (.int .i64 t2.s) (.slice sb t2.ps.length sd) (.slice lb t2.cs.length ld)) := X24_13.out.later hb
              have N8_14 : Hid (RdT w14 p8 nb.ps.length q8 r8 nb.cs.length s8 nb) := hrd
              clear B_13 RT2_13 X24_13 hb
              clear hrd
              obtain ⟨w15, hA14⟩ : ∃ X, w14.alloc (.cells #[.int .i64 nb.s, .slice p8 nb.ps.length q8, .slice r8 nb.cs.length s8] 26) = X := ⟨_, rfl⟩
              have hb : Below w14.heap.size w14 w15 := by rw [← hA14]; exact balloc w14 _
              have B_15 : Hid (Below w.heap.size w w15) := B_14.out.trans (hb.mono B_14.out.size)
              have RT2_15 : Hid (RdT w15 sb t2.ps.length sd lb t2.cs.length ld t2) := RT2_14.out.later hb
              have X24_15 : Hid (X3 w15 w12.heap.size (.int .i64 t2.s) (.slice sb t2.ps.length sd) (.slice lb t2.cs.length ld)) := X24_14.out.later hb
              have N8_15 : Hid (RdT w15 p8 nb.ps.length q8 r8 nb.cs.length s8 nb) := N8_14.out.later hb
              have z14 : w14.heap.size ≤ w15.heap.size := hb.size
              clear B_14 RT2_14 X24_14 N8_14
              clear hb
              have Y8_15 : Hid (X3 w15 w14.heap.size (.int .i64 nb.s) (.slice p8 nb.ps.length q8) (.slice r8 nb.cs.length s8)) := by rw [← hA14]; exact x3_new w14 _ _ _ _ _ rfl
              obtain ⟨⟨uX240, uX241, uX242⟩, uX24z⟩ := id X24_15.out
              go_wp2_with fail
              clear uX240 uX241 uX242 uX24z
              clear hA14
              refine (ROS.out _ RT2_15.out).mono ?_
              rintro e w16 ⟨p9, q9, r9, s9, rfl, hrd, hb⟩
              have z15 : w15.heap.size ≤ w16.heap.size := hb.size
              have B_16 : Hid (Below w.heap.size w w16) := B_15.out.trans (hb.mono B_15.out.size)
              have RT2_16 : Hid (RdT w16 sb t2.ps.length sd lb t2.cs.length ld t2) := RT2_15.out.later hb
              have X24_16 : Hid (X3 w16 w12.heap.size (.int .i64 t2.s) (.slice sb t2.ps.length sd) (.slice lb t2.cs.length ld)) := X24_15.out.later hb
              have N8_16 : Hid (RdT w16 p8 nb.ps.length q8 r8 nb.cs.length s8 nb) := N8_15.out.later hb
              have Y8_16 : Hid (X3 w16 w14.heap.size (.int .i64 nb.s) (.slice p8 nb.ps.length q8) (.slice r8 nb.cs.length s8)) := Y8_15.out.later hb
              have N9_16 : Hid (RdT w16 p9 nb.ps.length q9 r9 nb.cs.length s9 nb) := hrd
              clear B_15 RT2_15 X24_15 N8_15 Y8_15 hb
              clear hrd
              obtain ⟨w17, hA16⟩ : ∃ X, w16.alloc (.cells #[.int .i64 nb.s, .slice p9 nb.ps.length q9, .slice r9 nb.cs.length s9] 26) = X := ⟨_, rfl⟩
              have hb : Below w16.heap.size w16 w17 := by rw [← hA16]; exact balloc w16 _
              have B_17 : Hid (Below w.heap.size w w17) := B_16.out.trans (hb.mono B_16.out.size)
              have RT2_17 : Hid (RdT w17 sb t2.ps.length sd lb t2.cs.length ld t2) := RT2_16.out.later hb
              have X24_17 : Hid (X3 w17 w12.heap.size (.int .i64 t2.s) (.slice sb t2.ps.length sd) (.slice lb t2.cs.length ld)) := X24_16.out.later hb
              have N8_17 : Hid (RdT w17 p8 nb.ps.length q8 r8 nb.cs.length s8 nb) := N8_16.out.later hb
              have Y8_17 : Hid (X3 w17 w14.heap.size (.int .i64 nb.s) (.slice p8 nb.ps.length q8) (.slice r8 nb.cs.length s8)) := Y8_16.out.later hb
              have N9_17 : Hid (RdT w17 p9 nb.ps.length q9 r9 nb.cs.length s9 nb) := N9_16.out.later hb
              have z16 : w16.heap.size ≤ w17.heap.size := hb.size
              clear B_16 RT2_16 X24_16 N8_16 Y8_16 N9_16
              clear hb
              have Y9_17 : Hid (X3 w17 w16.heap.size (.int .i64 nb.s) (.slice p9 nb.ps.length q9) (.slice r9 nb.cs.length s9)) := by rw [← hA16]; exact x3_new w16 _ _ _ _ _ rfl
              clear X24_17
              clear RT2_17
              go_wp2_with fail
              clear hA16
              refine (drawSayAt_c bo m d _ hm (HM.out.later B_17.out B_17.out.size)).mono ?_
              rintro e w18 ⟨t3, se, sf, le, lf, vs, vw, vo, rfl, hts, hrd, hsm, hb⟩
              have z17 : w17.heap.size ≤ w18.heap.size := hb.size
              have B_18 : Hid (Below w.heap.size w w18) := B_17.out.trans (hb.mono B_17.out.size)
              have N8_18 : Hid (RdT w18 p8 nb.ps.length q8 r8 nb.cs.length s8 nb) := N8_17.out.later hb
              have Y8_18 : Hid (X3 w18 w14.heap.size (.int .i64 nb.s) (.slice p8 nb.ps.length q8) (.slice r8 nb.cs.length s8)) := Y8_17.out.later hb
              have N9_18 : Hid (RdT w18 p9 nb.ps.length q9 r9 nb.cs.length s9 nb) := N9_17.out.later hb
              have Y9_18 : Hid (X3 w18 w16.heap.size (.int .i64 nb.s) (.slice p9 nb.ps.length q9) (.slice r9 nb.cs.length s9)) := Y9_17.out.later hb
              clear B_17 N8_17 Y8_17 N9_17 Y9_17 hb
              have RT3_18 : Hid (RdT w18 se t3.ps.length sf le t3.cs.length lf t3) := hrd
              clear hrd hsm hts ROI ROS
              obtain ⟨xv, hxv⟩ : ∃ x, saV t3 vs vw vo = x := ⟨_, rfl⟩
              obtain ⟨xb, hxb⟩ : ∃ x, saB t3 vs vw vo = x := ⟨_, rfl⟩
              have RSI : Hid (∀ wx, RdT wx se t3.ps.length sf le t3.cs.length lf t3 → Calls Try.prog 12 #[.agg #[.int .i64 t3.s, .slice se t3.ps.length sf, .slice le t3.cs.length lf], .int .i64 vs, .int .i64 vw, .int .i64 vo] wx fun e w' => e = .returned (.tuple #[.int .i64 xv, .bool xb]) ∧ Below wx.heap.size wx w') := fun wx h => by
                have q := implSayAt_c se _ sf le _ lf t3 vs vw vo wx h
                rw [hxv, hxb] at q
                exact q
              have RSS : Hid (∀ wx, RdT wx se t3.ps.length sf le t3.cs.length lf t3 → Calls Try.prog 18 #[.agg #[.int .i64 t3.s, .slice se t3.ps.length sf, .slice le t3.cs.length lf], .int .i64 vs, .int .i64 vw, .int .i64 vo] wx fun e w' => e = .returned (.tuple #[.int .i64 xv, .bool xb]) ∧ Below wx.heap.size wx w') := fun wx h => by
                have q := specSayAt_c se _ sf le _ lf t3 vs vw vo wx h
                rw [hxv, hxb] at q
                exact q
              clear hxv hxb
              have hxx : (xb == xb) = true := by simp
              have hvx : (xv == xv) = true := by simp
              obtain ⟨w19, hA18⟩ : ∃ X, w18.alloc (.cells #[.int .i64 t3.s, .slice se t3.ps.length sf, .slice le t3.cs.length lf] 26) = X := ⟨_, rfl⟩
              have hb : Below w18.heap.size w18 w19 := by rw [← hA18]; exact balloc w18 _
              have B_19 : Hid (Below w.heap.size w w19) := B_18.out.trans (hb.mono B_18.out.size)
              have N8_19 : Hid (RdT w19 p8 nb.ps.length q8 r8 nb.cs.length s8 nb) := N8_18.out.later hb
              have Y8_19 : Hid (X3 w19 w14.heap.size (.int .i64 nb.s) (.slice p8 nb.ps.length q8) (.slice r8 nb.cs.length s8)) := Y8_18.out.later hb
              have N9_19 : Hid (RdT w19 p9 nb.ps.length q9 r9 nb.cs.length s9 nb) := N9_18.out.later hb
              have Y9_19 : Hid (X3 w19 w16.heap.size (.int .i64 nb.s) (.slice p9 nb.ps.length q9) (.slice r9 nb.cs.length s9)) := Y9_18.out.later hb
              have RT3_19 : Hid (RdT w19 se t3.ps.length sf le t3.cs.length lf t3) := RT3_18.out.later hb
              have z18 : w18.heap.size ≤ w19.heap.size := hb.size
              clear B_18 N8_18 Y8_18 N9_18 Y9_18 RT3_18
              clear hb
              have X32_19 : Hid (X3 w19 w18.heap.size (.int .i64 t3.s) (.slice se t3.ps.length sf) (.slice le t3.cs.length lf)) := by rw [← hA18]; exact x3_new w18 _ _ _ _ _ rfl
              obtain ⟨⟨uX320, uX321, uX322⟩, uX32z⟩ := id X32_19.out
              go_wp2_with fail
              clear uX320 uX321 uX322 uX32z
              clear hA18
              refine (RSI.out _ RT3_19.out).mono ?_
              rintro e w20 ⟨rfl, hb⟩
              have z19 : w19.heap.size ≤ w20.heap.size := hb.size
              have B_20 : Hid (Below w.heap.size w w20) := B_19.out.trans (hb.mono B_19.out.size)
              have N8_20 : Hid (RdT w20 p8 nb.ps.length q8 r8 nb.cs.length s8 nb) := N8_19.out.later hb
              have Y8_20 : Hid (X3 w20 w14.heap.size (.int .i64 nb.s) (.slice p8 nb.ps.length q8) (.slice r8 nb.cs.length s8)) := Y8_19.out.later hb
              have N9_20 : Hid (RdT w20 p9 nb.ps.length q9 r9 nb.cs.length s9 nb) := N9_19.out.later hb
              have Y9_20 : Hid (X3 w20 w16.heap.size (.int .i64 nb.s) (.slice p9 nb.ps.length q9) (.slice r9 nb.cs.length s9)) := Y9_19.out.later hb
              have RT3_20 : Hid (RdT w20 se t3.ps.length sf le t3.cs.length lf t3) := RT3_19.out.later hb
              have X32_20 : Hid (X3 w20 w18.heap.size (.int .i64 t3.s) (.slice se t3.ps.length sf) (.slice le t3.cs.length lf)) := X32_19.out.later hb
              clear B_19 N8_19 Y8_19 N9_19 Y9_19 RT3_19 X32_19 hb
              obtain ⟨⟨uX320, uX321, uX322⟩, uX32z⟩ := id X32_20.out
              go_wp2_with fail
              clear uX320 uX321 uX322 uX32z
              refine (RSS.out _ RT3_20.out).mono ?_
              rintro e w21 ⟨rfl, hb⟩
              have z20 : w20.heap.size ≤ w21.heap.size := hb.size
              have B_21 : Hid (Below w.heap.size w w21) := B_20.out.trans (hb.mono B_20.out.size)
              have N8_21 : Hid (RdT w21 p8 nb.ps.length q8 r8 nb.cs.length s8 nb) := N8_20.out.later hb
              have Y8_21 : Hid (X3 w21 w14.heap.size (.int .i64 nb.s) (.slice p8 nb.ps.length q8) (.slice r8 nb.cs.length s8)) := Y8_20.out.later hb
              have N9_21 : Hid (RdT w21 p9 nb.ps.length q9 r9 nb.cs.length s9 nb) := N9_20.out.later hb
              have Y9_21 : Hid (X3 w21 w16.heap.size (.int .i64 nb.s) (.slice p9 nb.ps.length q9) (.slice r9 nb.cs.length s9)) := Y9_20.out.later hb
              have RT3_21 : Hid (RdT w21 se t3.ps.length sf le t3.cs.length lf t3) := RT3_20.out.later hb
              have X32_21 : Hid (X3 w21 w18.heap.size (.int .i64 t3.s) (.slice se t3.ps.length sf) (.slice le t3.cs.length lf)) := X32_20.out.later hb
              clear B_20 N8_20 Y8_20 N9_20 Y9_20 RT3_20 X32_20 hb
              obtain ⟨⟨uY80, uY81, uY82⟩, uY8z⟩ := id Y8_21.out
              obtain ⟨⟨uY90, uY91, uY92⟩, uY9z⟩ := id Y9_21.out
              go_wp2_with fail
              clear uY80 uY81 uY82 uY8z
              clear uY90 uY91 uY92 uY9z
              refine (sameTable_c p8 _ q8 r8 _ s8 p9 q9 r9 s9 nb _ HNS.out N8_21.out N9_21.out).mono ?_
              rintro e w22 ⟨rfl, hb⟩
              have z21 : w21.heap.size ≤ w22.heap.size := hb.size
              have B_22 : Hid (Below w.heap.size w w22) := B_21.out.trans (hb.mono B_21.out.size)
              have N8_22 : Hid (RdT w22 p8 nb.ps.length q8 r8 nb.cs.length s8 nb) := N8_21.out.later hb
              have Y8_22 : Hid (X3 w22 w14.heap.size (.int .i64 nb.s) (.slice p8 nb.ps.length q8) (.slice r8 nb.cs.length s8)) := Y8_21.out.later hb
              have N9_22 : Hid (RdT w22 p9 nb.ps.length q9 r9 nb.cs.length s9 nb) := N9_21.out.later hb
              have Y9_22 : Hid (X3 w22 w16.heap.size (.int .i64 nb.s) (.slice p9 nb.ps.length q9) (.slice r9 nb.cs.length s9)) := Y9_21.out.later hb
              have RT3_22 : Hid (RdT w22 se t3.ps.length sf le t3.cs.length lf t3) := RT3_21.out.later hb
              have X32_22 : Hid (X3 w22 w18.heap.size (.int .i64 t3.s) (.slice se t3.ps.length sf) (.slice le t3.cs.length lf)) := X32_21.out.later hb
              clear B_21 N8_21 Y8_21 N9_21 Y9_21 RT3_21 X32_21 hb
              go_wp2
              go_ret
              exact ⟨rfl, B_22.out⟩
            · obtain rfl : j = k := by omega
              have hjj : ¬ (j : Int) < (j : Int) := by omega
              go_wp2_with fail
              clear u0 u1 u2 uz HBL
              clear V1_11
              clear X5_11
              clear RT_11
              clear QAI QAS QGI QGS QSU QSA QWB QOC
              refine (drawOth_c bo m d _ hm (HM.out.later B_11.out B_11.out.size)).mono ?_
              rintro e w12 ⟨t2, sb, sd, lb, ld, oa, ob, ow, rfl, hts, hrd, hsm, hb⟩
              have z11 : wr.heap.size ≤ w12.heap.size := hb.size
              have B_12 : Hid (Below w.heap.size w w12) := B_11.out.trans (hb.mono B_11.out.size)
              clear B_11 hb
              have RT2_12 : Hid (RdT w12 sb t2.ps.length sd lb t2.cs.length ld t2) := hrd
              clear hrd hsm hts
              obtain ⟨nb, hnb⟩ : ∃ x, othV t2 oa ob ow = x := ⟨_, rfl⟩
              obtain ⟨fb, hfb⟩ : ∃ x, othB t2 oa ob ow = x := ⟨_, rfl⟩
              have HNS : Hid (SmallTb nb) := by rw [← hnb]; exact othV_sm _ _ _ _
              have ROI : Hid (∀ wx, RdT wx sb t2.ps.length sd lb t2.cs.length ld t2 → Calls Try.prog 13 #[.agg #[.int .i64 t2.s, .slice sb t2.ps.length sd, .slice lb t2.cs.length ld], .int .i64 oa, .int .i64 ob, .int .i64 ow] wx fun e w' => ∃ (sa' : Option Addr) (sc' : Nat) (la' : Option Addr) (lc' : Nat), e = .returned (.tuple #[.agg #[.int .i64 nb.s, .slice sa' nb.ps.length sc', .slice la' nb.cs.length lc'], .bool fb]) ∧ RdT w' sa' nb.ps.length sc' la' nb.cs.length lc' nb ∧ Below wx.heap.size wx w') := fun wx h => by
                have q := implOth_c sb _ sd lb _ ld t2 oa ob ow wx h
                unfold TellT at q
                rw [hnb, hfb] at q
                refine q.mono ?_
                rintro e w' ⟨s1, s2, l1, l2, h1, h2, h3⟩
                exact ⟨s1, s2, l1, l2, h1, rdT_of HNS.out h2.rd, h3⟩
              have ROS : Hid (∀ wx, RdT wx sb t2.ps.length sd lb t2.cs.length ld t2 → Calls Try.prog 16 #[.agg #[.int .i64 t2.s, .slice sb t2.ps.length sd, .slice lb t2.cs.length ld], .int .i64 oa, .int .i64 ob, .int .i64 ow] wx fun e w' => ∃ (sa' : Option Addr) (sc' : Nat) (la' : Option Addr) (lc' : Nat), e = .returned (.tuple #[.agg #[.int .i64 nb.s, .slice sa' nb.ps.length sc', .slice la' nb.cs.length lc'], .bool fb]) ∧ RdT w' sa' nb.ps.length sc' la' nb.cs.length lc' nb ∧ Below wx.heap.size wx w') := fun wx h => by
                have q := specOth_c sb _ sd lb _ ld t2 oa ob ow wx h
                unfold TellT at q
                rw [hnb, hfb] at q
                refine q.mono ?_
                rintro e w' ⟨s1, s2, l1, l2, h1, h2, h3⟩
                exact ⟨s1, s2, l1, l2, h1, rdT_of HNS.out h2.rd, h3⟩
              clear hnb hfb
              have hff : (fb == fb) = true := by simp
              obtain ⟨w13, hA12⟩ : ∃ X, w12.alloc (.cells #[.int .i64 t2.s, .slice sb t2.ps.length sd, .slice lb t2.cs.length ld] 26) = X := ⟨_, rfl⟩
              have hb : Below w12.heap.size w12 w13 := by rw [← hA12]; exact balloc w12 _
              have B_13 : Hid (Below w.heap.size w w13) := B_12.out.trans (hb.mono B_12.out.size)
              have RT2_13 : Hid (RdT w13 sb t2.ps.length sd lb t2.cs.length ld t2) := RT2_12.out.later hb
              have z12 : w12.heap.size ≤ w13.heap.size := hb.size
              clear B_12 RT2_12
              clear hb
              have X24_13 : Hid (X3 w13 w12.heap.size (.int .i64 t2.s) (.slice sb t2.ps.length sd) (.slice lb t2.cs.length ld)) := by rw [← hA12]; exact x3_new w12 _ _ _ _ _ rfl
              obtain ⟨⟨uX240, uX241, uX242⟩, uX24z⟩ := id X24_13.out
              go_wp2_with fail
              clear uX240 uX241 uX242 uX24z
              clear hA12
              refine (ROI.out _ RT2_13.out).mono ?_
              rintro e w14 ⟨p8, q8, r8, s8, rfl, hrd, hb⟩
              have z13 : w13.heap.size ≤ w14.heap.size := hb.size
              have B_14 : Hid (Below w.heap.size w w14) := B_13.out.trans (hb.mono B_13.out.size)
              have RT2_14 : Hid (RdT w14 sb t2.ps.length sd lb t2.cs.length ld t2) := RT2_13.out.later hb
              have X24_14 : Hid (X3 w14 w12.heap.size (.int .i64 t2.s) (.slice sb t2.ps.length sd) (.slice lb t2.cs.length ld)) := X24_13.out.later hb
              have N8_14 : Hid (RdT w14 p8 nb.ps.length q8 r8 nb.cs.length s8 nb) := hrd
              clear B_13 RT2_13 X24_13 hb
              clear hrd
              obtain ⟨w15, hA14⟩ : ∃ X, w14.alloc (.cells #[.int .i64 nb.s, .slice p8 nb.ps.length q8, .slice r8 nb.cs.length s8] 26) = X := ⟨_, rfl⟩
              have hb : Below w14.heap.size w14 w15 := by rw [← hA14]; exact balloc w14 _
              have B_15 : Hid (Below w.heap.size w w15) := B_14.out.trans (hb.mono B_14.out.size)
              have RT2_15 : Hid (RdT w15 sb t2.ps.length sd lb t2.cs.length ld t2) := RT2_14.out.later hb
              have X24_15 : Hid (X3 w15 w12.heap.size (.int .i64 t2.s) (.slice sb t2.ps.length sd) (.slice lb t2.cs.length ld)) := X24_14.out.later hb
              have N8_15 : Hid (RdT w15 p8 nb.ps.length q8 r8 nb.cs.length s8 nb) := N8_14.out.later hb
              have z14 : w14.heap.size ≤ w15.heap.size := hb.size
              clear B_14 RT2_14 X24_14 N8_14
              clear hb
              have Y8_15 : Hid (X3 w15 w14.heap.size (.int .i64 nb.s) (.slice p8 nb.ps.length q8) (.slice r8 nb.cs.length s8)) := by rw [← hA14]; exact x3_new w14 _ _ _ _ _ rfl
              obtain ⟨⟨uX240, uX241, uX242⟩, uX24z⟩ := id X24_15.out
              go_wp2_with fail
              clear uX240 uX241 uX242 uX24z
              clear hA14
              refine (ROS.out _ RT2_15.out).mono ?_
              rintro e w16 ⟨p9, q9, r9, s9, rfl, hrd, hb⟩
              have z15 : w15.heap.size ≤ w16.heap.size := hb.size
              have B_16 : Hid (Below w.heap.size w w16) := B_15.out.trans (hb.mono B_15.out.size)
              have RT2_16 : Hid (RdT w16 sb t2.ps.length sd lb t2.cs.length ld t2) := RT2_15.out.later hb
              have X24_16 : Hid (X3 w16 w12.heap.size (.int .i64 t2.s) (.slice sb t2.ps.length sd) (.slice lb t2.cs.length ld)) := X24_15.out.later hb
              have N8_16 : Hid (RdT w16 p8 nb.ps.length q8 r8 nb.cs.length s8 nb) := N8_15.out.later hb
              have Y8_16 : Hid (X3 w16 w14.heap.size (.int .i64 nb.s) (.slice p8 nb.ps.length q8) (.slice r8 nb.cs.length s8)) := Y8_15.out.later hb
              have N9_16 : Hid (RdT w16 p9 nb.ps.length q9 r9 nb.cs.length s9 nb) := hrd
              clear B_15 RT2_15 X24_15 N8_15 Y8_15 hb
              clear hrd
              obtain ⟨w17, hA16⟩ : ∃ X, w16.alloc (.cells #[.int .i64 nb.s, .slice p9 nb.ps.length q9, .slice r9 nb.cs.length s9] 26) = X := ⟨_, rfl⟩
              have hb : Below w16.heap.size w16 w17 := by rw [← hA16]; exact balloc w16 _
              have B_17 : Hid (Below w.heap.size w w17) := B_16.out.trans (hb.mono B_16.out.size)
              have RT2_17 : Hid (RdT w17 sb t2.ps.length sd lb t2.cs.length ld t2) := RT2_16.out.later hb
              have X24_17 : Hid (X3 w17 w12.heap.size (.int .i64 t2.s) (.slice sb t2.ps.length sd) (.slice lb t2.cs.length ld)) := X24_16.out.later hb
              have N8_17 : Hid (RdT w17 p8 nb.ps.length q8 r8 nb.cs.length s8 nb) := N8_16.out.later hb
              have Y8_17 : Hid (X3 w17 w14.heap.size (.int .i64 nb.s) (.slice p8 nb.ps.length q8) (.slice r8 nb.cs.length s8)) := Y8_16.out.later hb
              have N9_17 : Hid (RdT w17 p9 nb.ps.length q9 r9 nb.cs.length s9 nb) := N9_16.out.later hb
              have z16 : w16.heap.size ≤ w17.heap.size := hb.size
              clear B_16 RT2_16 X24_16 N8_16 Y8_16 N9_16
              clear hb
              have Y9_17 : Hid (X3 w17 w16.heap.size (.int .i64 nb.s) (.slice p9 nb.ps.length q9) (.slice r9 nb.cs.length s9)) := by rw [← hA16]; exact x3_new w16 _ _ _ _ _ rfl
              clear X24_17
              clear RT2_17
              go_wp2_with fail
              clear hA16
              refine (drawSayAt_c bo m d _ hm (HM.out.later B_17.out B_17.out.size)).mono ?_
              rintro e w18 ⟨t3, se, sf, le, lf, vs, vw, vo, rfl, hts, hrd, hsm, hb⟩
              have z17 : w17.heap.size ≤ w18.heap.size := hb.size
              have B_18 : Hid (Below w.heap.size w w18) := B_17.out.trans (hb.mono B_17.out.size)
              have N8_18 : Hid (RdT w18 p8 nb.ps.length q8 r8 nb.cs.length s8 nb) := N8_17.out.later hb
              have Y8_18 : Hid (X3 w18 w14.heap.size (.int .i64 nb.s) (.slice p8 nb.ps.length q8) (.slice r8 nb.cs.length s8)) := Y8_17.out.later hb
              have N9_18 : Hid (RdT w18 p9 nb.ps.length q9 r9 nb.cs.length s9 nb) := N9_17.out.later hb
              have Y9_18 : Hid (X3 w18 w16.heap.size (.int .i64 nb.s) (.slice p9 nb.ps.length q9) (.slice r9 nb.cs.length s9)) := Y9_17.out.later hb
              clear B_17 N8_17 Y8_17 N9_17 Y9_17 hb
              have RT3_18 : Hid (RdT w18 se t3.ps.length sf le t3.cs.length lf t3) := hrd
              clear hrd hsm hts ROI ROS
              obtain ⟨xv, hxv⟩ : ∃ x, saV t3 vs vw vo = x := ⟨_, rfl⟩
              obtain ⟨xb, hxb⟩ : ∃ x, saB t3 vs vw vo = x := ⟨_, rfl⟩
              have RSI : Hid (∀ wx, RdT wx se t3.ps.length sf le t3.cs.length lf t3 → Calls Try.prog 12 #[.agg #[.int .i64 t3.s, .slice se t3.ps.length sf, .slice le t3.cs.length lf], .int .i64 vs, .int .i64 vw, .int .i64 vo] wx fun e w' => e = .returned (.tuple #[.int .i64 xv, .bool xb]) ∧ Below wx.heap.size wx w') := fun wx h => by
                have q := implSayAt_c se _ sf le _ lf t3 vs vw vo wx h
                rw [hxv, hxb] at q
                exact q
              have RSS : Hid (∀ wx, RdT wx se t3.ps.length sf le t3.cs.length lf t3 → Calls Try.prog 18 #[.agg #[.int .i64 t3.s, .slice se t3.ps.length sf, .slice le t3.cs.length lf], .int .i64 vs, .int .i64 vw, .int .i64 vo] wx fun e w' => e = .returned (.tuple #[.int .i64 xv, .bool xb]) ∧ Below wx.heap.size wx w') := fun wx h => by
                have q := specSayAt_c se _ sf le _ lf t3 vs vw vo wx h
                rw [hxv, hxb] at q
                exact q
              clear hxv hxb
              have hxx : (xb == xb) = true := by simp
              have hvx : (xv == xv) = true := by simp
              obtain ⟨w19, hA18⟩ : ∃ X, w18.alloc (.cells #[.int .i64 t3.s, .slice se t3.ps.length sf, .slice le t3.cs.length lf] 26) = X := ⟨_, rfl⟩
              have hb : Below w18.heap.size w18 w19 := by rw [← hA18]; exact balloc w18 _
              have B_19 : Hid (Below w.heap.size w w19) := B_18.out.trans (hb.mono B_18.out.size)
              have N8_19 : Hid (RdT w19 p8 nb.ps.length q8 r8 nb.cs.length s8 nb) := N8_18.out.later hb
              have Y8_19 : Hid (X3 w19 w14.heap.size (.int .i64 nb.s) (.slice p8 nb.ps.length q8) (.slice r8 nb.cs.length s8)) := Y8_18.out.later hb
              have N9_19 : Hid (RdT w19 p9 nb.ps.length q9 r9 nb.cs.length s9 nb) := N9_18.out.later hb
              have Y9_19 : Hid (X3 w19 w16.heap.size (.int .i64 nb.s) (.slice p9 nb.ps.length q9) (.slice r9 nb.cs.length s9)) := Y9_18.out.later hb
              have RT3_19 : Hid (RdT w19 se t3.ps.length sf le t3.cs.length lf t3) := RT3_18.out.later hb
              have z18 : w18.heap.size ≤ w19.heap.size := hb.size
              clear B_18 N8_18 Y8_18 N9_18 Y9_18 RT3_18
              clear hb
              have X32_19 : Hid (X3 w19 w18.heap.size (.int .i64 t3.s) (.slice se t3.ps.length sf) (.slice le t3.cs.length lf)) := by rw [← hA18]; exact x3_new w18 _ _ _ _ _ rfl
              obtain ⟨⟨uX320, uX321, uX322⟩, uX32z⟩ := id X32_19.out
              go_wp2_with fail
              clear uX320 uX321 uX322 uX32z
              clear hA18
              refine (RSI.out _ RT3_19.out).mono ?_
              rintro e w20 ⟨rfl, hb⟩
              have z19 : w19.heap.size ≤ w20.heap.size := hb.size
              have B_20 : Hid (Below w.heap.size w w20) := B_19.out.trans (hb.mono B_19.out.size)
              have N8_20 : Hid (RdT w20 p8 nb.ps.length q8 r8 nb.cs.length s8 nb) := N8_19.out.later hb
              have Y8_20 : Hid (X3 w20 w14.heap.size (.int .i64 nb.s) (.slice p8 nb.ps.length q8) (.slice r8 nb.cs.length s8)) := Y8_19.out.later hb
              have N9_20 : Hid (RdT w20 p9 nb.ps.length q9 r9 nb.cs.length s9 nb) := N9_19.out.later hb
              have Y9_20 : Hid (X3 w20 w16.heap.size (.int .i64 nb.s) (.slice p9 nb.ps.length q9) (.slice r9 nb.cs.length s9)) := Y9_19.out.later hb
              have RT3_20 : Hid (RdT w20 se t3.ps.length sf le t3.cs.length lf t3) := RT3_19.out.later hb
              have X32_20 : Hid (X3 w20 w18.heap.size (.int .i64 t3.s) (.slice se t3.ps.length sf) (.slice le t3.cs.length lf)) := X32_19.out.later hb
              clear B_19 N8_19 Y8_19 N9_19 Y9_19 RT3_19 X32_19 hb
              obtain ⟨⟨uX320, uX321, uX322⟩, uX32z⟩ := id X32_20.out
              go_wp2_with fail
              clear uX320 uX321 uX322 uX32z
              refine (RSS.out _ RT3_20.out).mono ?_
              rintro e w21 ⟨rfl, hb⟩
              have z20 : w20.heap.size ≤ w21.heap.size := hb.size
              have B_21 : Hid (Below w.heap.size w w21) := B_20.out.trans (hb.mono B_20.out.size)
              have N8_21 : Hid (RdT w21 p8 nb.ps.length q8 r8 nb.cs.length s8 nb) := N8_20.out.later hb
              have Y8_21 : Hid (X3 w21 w14.heap.size (.int .i64 nb.s) (.slice p8 nb.ps.length q8) (.slice r8 nb.cs.length s8)) := Y8_20.out.later hb
              have N9_21 : Hid (RdT w21 p9 nb.ps.length q9 r9 nb.cs.length s9 nb) := N9_20.out.later hb
              have Y9_21 : Hid (X3 w21 w16.heap.size (.int .i64 nb.s) (.slice p9 nb.ps.length q9) (.slice r9 nb.cs.length s9)) := Y9_20.out.later hb
              have RT3_21 : Hid (RdT w21 se t3.ps.length sf le t3.cs.length lf t3) := RT3_20.out.later hb
              have X32_21 : Hid (X3 w21 w18.heap.size (.int .i64 t3.s) (.slice se t3.ps.length sf) (.slice le t3.cs.length lf)) := X32_20.out.later hb
              clear B_20 N8_20 Y8_20 N9_20 Y9_20 RT3_20 X32_20 hb
              obtain ⟨⟨uY80, uY81, uY82⟩, uY8z⟩ := id Y8_21.out
              obtain ⟨⟨uY90, uY91, uY92⟩, uY9z⟩ := id Y9_21.out
              go_wp2_with fail
              clear uY80 uY81 uY82 uY8z
              clear uY90 uY91 uY92 uY9z
              refine (sameTable_c p8 _ q8 r8 _ s8 p9 q9 r9 s9 nb _ HNS.out N8_21.out N9_21.out).mono ?_
              rintro e w22 ⟨rfl, hb⟩
              have z21 : w21.heap.size ≤ w22.heap.size := hb.size
              have B_22 : Hid (Below w.heap.size w w22) := B_21.out.trans (hb.mono B_21.out.size)
              have N8_22 : Hid (RdT w22 p8 nb.ps.length q8 r8 nb.cs.length s8 nb) := N8_21.out.later hb
              have Y8_22 : Hid (X3 w22 w14.heap.size (.int .i64 nb.s) (.slice p8 nb.ps.length q8) (.slice r8 nb.cs.length s8)) := Y8_21.out.later hb
              have N9_22 : Hid (RdT w22 p9 nb.ps.length q9 r9 nb.cs.length s9 nb) := N9_21.out.later hb
              have Y9_22 : Hid (X3 w22 w16.heap.size (.int .i64 nb.s) (.slice p9 nb.ps.length q9) (.slice r9 nb.cs.length s9)) := Y9_21.out.later hb
              have RT3_22 : Hid (RdT w22 se t3.ps.length sf le t3.cs.length lf t3) := RT3_21.out.later hb
              have X32_22 : Hid (X3 w22 w18.heap.size (.int .i64 t3.s) (.slice se t3.ps.length sf) (.slice le t3.cs.length lf)) := X32_21.out.later hb
              clear B_21 N8_21 Y8_21 N9_21 Y9_21 RT3_21 X32_21 hb
              go_wp2
              go_ret
              exact ⟨rfl, B_22.out⟩

end Go.Proofs.Ytbjpkklonjlmiaa
