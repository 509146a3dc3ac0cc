/- Chapter 7: onions peeled, the specification. -/
import Derived.Test.YtnfoflijapbkdaaS7
import Derived.Test.YtnfoflijapbkdaaN7
namespace Go.Proofs.Ytnfoflijapbkdaa
set_option linter.unusedVariables false
set_option maxRecDepth 1000000
set_option linter.unusedSimpArgs false
open Go.RowKit

theorem tx_extract (l : Bs) (a b : Nat) : (tx l).extract a b = tx ((l.drop a).take (b - a)) := ByteArray.extract_mk l a b

set_option maxHeartbeats 4000000 in
theorem specPeel_c (k : Int) (s : ByteArray) (w : World) (hs : s.size ≤ 17592186044416) (nx : Int) (rs bd : ByteArray) (fb : Bool) (hF : peelR (peelF k s) = (nx, rs, bd, fb)) :
    Calls Try.prog 20 #[.int .i64 k, .string s] w fun e w' => e = .returned (.tuple #[.agg #[.int .i64 nx, .string rs, .string bd], .bool fb]) ∧ Below w.heap.size w w' := by
  have HK : Hid (∀ wx, Calls Try.prog 63 #[.int .i64 k] wx fun e w' => e = .returned (.bool (blockB k)) ∧ w' = wx) := fun wx => l4Key_c k wx
  have HB0 : Hid (Below w.heap.size w (w.alloc (.cells #[.int .i64 0, .string ⟨#[]⟩, .string ⟨#[]⟩] 31))) := balloc w _
  cases hb : blockB k with
  | false =>
    rw [hb] at HK
    rw [peelF_no (fun h => by rw [hb] at h; cases h.1)] at hF
    simp only [Prod.mk.injEq] at hF
    obtain ⟨rfl, rfl, rfl, rfl⟩ := hF
    clear hb
    go_enter Try.func20, Try.ntmps20
    go_wp2_with (go_at_call 63; refine (HK.out _).mono ?_; clear HK; rintro e w' ⟨rfl, hw⟩; subst w')
    refine bodyPost_ret (v := .tuple #[.agg #[.int .i64 0, .string ByteArray.empty, .string ByteArray.empty], .bool false]) (by simp [results, Try.results20, go_sem, results]; try rfl) rfl ?_
    exact ⟨rfl, HB0.out⟩
  | true =>
    rw [hb] at HK
    by_cases h24 : s.size = 24
    · have i1 : ((s.size : Int) != 24) = false := by rw [bne_eq_false_iff_eq]; omega
      have hC0 := c3_new w 0 ⟨#[]⟩ ⟨#[]⟩ 31 w.heap.size rfl
      have hZ0 : (w.alloc (.cells #[.int .i64 0, .string ⟨#[]⟩, .string ⟨#[]⟩] 31)).heap.size = w.heap.size + 1 := by simp
      obtain ⟨W0, hW0⟩ : ∃ W0, w.alloc (.cells #[.int .i64 0, .string ⟨#[]⟩, .string ⟨#[]⟩] 31) = W0 := ⟨_, rfl⟩
      rw [hW0] at hC0 HB0 hZ0
      have HP : Hid (∀ wx, Calls Try.prog 56 #[.int .i64 k, .int .i64 24] wx fun e w' => e = .returned (.string (padK k 24)) ∧ Below wx.heap.size wx w') := fun wx => l7Pad_c k 24 wx hb (by omega) (by omega)
      have HX : Hid (∀ wx, Calls Try.prog 55 #[.string s, .string (padK k 24)] wx fun e w' => e = .returned (.string (tx (xorB (bl s) (padU k)))) ∧ Below wx.heap.size wx w') := fun wx => l7Xor_c s (padK k 24) wx (by rw [padK_size hb (by omega) (by omega)]; exact h24.symm) (by omega)
      have hxl : (xorB (bl s) (padU k)).length = 24 := by rw [xorB_length (by rw [bl_length, padU_length hb]; exact h24), bl_length]; exact h24
      obtain ⟨q0, hq0⟩ : ∃ q, bN (xorB (bl s) (padU k)) 0 = q := ⟨_, rfl⟩
      obtain ⟨q1, hq1⟩ : ∃ q, bN (xorB (bl s) (padU k)) 1 = q := ⟨_, rfl⟩
      obtain ⟨u, hu⟩ : ∃ u, (xorB (bl s) (padU k)).drop 2 = u := ⟨_, rfl⟩
      have hul : u.length = 22 := by rw [← hu, List.length_drop]; omega
      rw [peelF_yes hb h24, peelR_at _ _ u q0 q1 hq0 hq1 hu] at hF
      obtain ⟨ts, hts0⟩ : ∃ ts, ts = tx (xorB (bl s) (padU k)) := ⟨_, rfl⟩
      have hts : ts.size = 24 := by rw [hts0, tx_size, hxl]
      have i9 : 0 < ts.size := by omega
      have i10 : 1 < ts.size := by omega
      have hb0 := byte_at ts 0 i9
      have hb1 := byte_at ts 1 i10
      rw [show bN (bl ts) 0 = q0 by rw [hts0, bl_tx, hq0]] at hb0
      rw [show bN (bl ts) 1 = q1 by rw [hts0, bl_tx, hq1]] at hb1
      have hx1 := tx_extract (xorB (bl s) (padU k)) 2 18
      have hx2 := tx_extract (xorB (bl s) (padU k)) 2 24
      rw [hu, ← hts0] at hx1 hx2
      rw [← hts0] at HX
      rw [show u.take (24 - 2) = u from List.take_of_length_le (by omega)] at hx2
      have hq0b := bN_lt (xorB (bl s) (padU k)) 0
      have hq1b := bN_lt (xorB (bl s) (padU k)) 1
      rw [hq0] at hq0b
      rw [hq1] at hq1b
      generalize padK k 24 = pk at HP HX
      clear hts0
      have hx3 : tx u ++ ByteArray.mk #[0, 0] = tx (u ++ [0, 0]) := tx_app u [0, 0]
      have hx4 := tx_extract (u ++ [0, 0]) 0 16
      rw [List.drop_zero, List.take_append_of_le_length (show 16 - 0 ≤ u.length by omega)] at hx4
      obtain ⟨ub, uf, hU⟩ : ∃ ub uf, unpadF (tx (u.take 16)) = (ub, uf) := ⟨_, _, rfl⟩
      have HUB : Hid (tx ((unpadB (u.take 16)).getD []) = ub) := by show _ = _; rw [← unpadF_body, hU]
      have HUN : Hid (∀ wx, Calls Try.prog 28 #[.string (tx (u.take 16))] wx fun e w' => e = .returned (.tuple #[.string ub, .bool uf]) ∧ Below wx.heap.size wx w') := fun wx => specUnpad_c _ wx (by rw [tx_size, List.length_take]; omega) ub uf hU
      have HCK : Hid (∀ wx, Calls Try.prog 54 #[.string (tx (u.take 16))] wx fun e w' => e = .returned (.int .i64 (chk (u.take 16) : Nat)) ∧ w' = wx) := fun wx => by
        have := l7Check_c (tx (u.take 16)) wx (by rw [tx_size, List.length_take]; omega)
        rwa [bl_tx] at this
      have hCb := chk_lt (u.take 16)
      have HF2 : Hid ((if (1 ≤ q0 ∧ q0 ≤ 250) ∧ q1 = chk (u.take 16) then ((q0 : Int), tx (u ++ [0, 0]), ub, true) else (0, ByteArray.empty, ByteArray.empty, false)) = (nx, rs, bd, fb)) := by show _ = _; rw [← HUB.out]; exact hF
      have hzu : (tx u).size = 22 := by rw [tx_size, hul]
      have hz24 : (tx (u ++ [0, 0])).size = 24 := by rw [tx_size, List.length_append, hul]; rfl
      simp only [show 18 - 2 = 16 from rfl] at hx1
      simp only [show 16 - 0 = 16 from rfl] at hx4
      generalize chk (u.take 16) = C at HCK HF2 hCb
      generalize tx (u.take 16) = t16 at hx1 hx4 HUN HCK
      generalize tx (u ++ [0, 0]) = t24 at hx3 hx4 HF2 hz24
      generalize tx u = tu at hx2 hx3 hzu
      have HH : Hid (∀ wx, Calls Try.prog 50 #[.int .i64 (q0 : Int), .int .i64 1, .int .i64 250] wx fun e w' => e = .returned (.bool (decide (1 ≤ (q0 : Int) ∧ (q0 : Int) ≤ 250))) ∧ w' = wx) := fun wx => l1In_c q0 1 250 wx
      have HC0 : Hid (C3 W0 w.heap.size 0 ⟨#[]⟩ ⟨#[]⟩) := hC0
      have HX2 : Hid (tu ++ ByteArray.mk #[0, 0] = t24 ∧ t24.extract 0 16 = t16 ∧ ts.extract 2 24 = tu ∧ ts.size = 24 ∧ tu.size = 22 ∧ t24.size = 24 ∧ ts.extract 2 18 = t16) := ⟨hx3, hx4, hx2, hts, hzu, hz24, hx1⟩
      clear hF hC0 hZ0 hq0 hq1 hu hul hxl hb h24 hs hU HUB hx2 hx3 hx4 hzu hz24
      have i5 : (0 : Int) < (ts.size : Int) := by omega
      have i6 : (1 : Int) < (ts.size : Int) := by omega
      have i7 : (18 : Int) ≤ (ts.size : Int) := by omega
      have i8 : (2 : Int) ≤ (ts.size : Int) := by omega
      clear hts
      go_enter Try.func20, Try.ntmps20
      go_wp2_with (go_at_call 63; refine (HK.out _).mono ?_; clear HK; rintro e w' ⟨rfl, hw⟩; subst w')
      refine (HP.out _).mono ?_
      rintro e W1 ⟨rfl, hb⟩
      have HB1 : Hid (Below w.heap.size w W1) := HB0.out.trans (hb.mono HB0.out.size)
      have HC1 : Hid (C3 W1 w.heap.size 0 ⟨#[]⟩ ⟨#[]⟩) := HC0.out.later hb
      clear hb HP HB0 HC0 hW0
      go_wp2_with fail
      refine (HX.out _).mono ?_
      rintro e W2 ⟨rfl, hb⟩
      have HB2 : Hid (Below w.heap.size w W2) := HB1.out.trans (hb.mono HB1.out.size)
      have HC2 : Hid (C3 W2 w.heap.size 0 ⟨#[]⟩ ⟨#[]⟩) := HC1.out.later hb
      clear hb HX HB1 HC1
      by_cases hq : 1 ≤ (q0 : Int) ∧ (q0 : Int) ≤ 250
      · rw [decide_eq_true hq] at HH
        by_cases hq' : q1 = C
        · have e1 : ((q1 : Int) != (C : Int)) = false := by rw [bne_eq_false_iff_eq]; omega
          go_wp2
          go_quiet (first | (go_at_call 50; exact Calls.quiet_of_same (HH.out _)) | (go_at_call 54; exact Calls.quiet_of_same (HCK.out _)))
          have hbv : Below w.heap.size w (W2.drewN nq) := below_drewN HB2.out nq
          have hcv : C3 (W2.drewN nq) w.heap.size 0 ⟨#[]⟩ ⟨#[]⟩ := HC2.out.later (below_drewN (Below.refl _ _) nq)
          generalize W2.drewN nq = V at hbv hcv ⊢
          have HBV : Hid (Below w.heap.size w V) := hbv
          have HCV : Hid (C3 V w.heap.size 0 ⟨#[]⟩ ⟨#[]⟩) := hcv
          have hF2 := HF2.out
          rw [if_pos ⟨by omega, hq'⟩] at hF2
          simp only [Prod.mk.injEq] at hF2
          obtain ⟨hn1, hn2, hn3, hn4⟩ := hF2
          subst hn1; subst hn2; subst hn3; subst hn4
          obtain ⟨x3, x4, x2, zs, zu, z24, _⟩ := HX2.out
          have x2' : ts.extract 2 ts.size = tu := by rw [zs]; exact x2
          have y1 : tu.size + 2 ≤ 9223372036854775807 := by omega
          have y2 : (16 : Int) ≤ (t24.size : Int) := by omega
          clear hq hq' HF2 HX2 HB2 HC2 HH HCK hbv hcv e1 hx1 x2 zs zu z24
          go_wp2_with fail
          refine (HUN.out _).mono ?_
          rintro e W3 ⟨rfl, hb3⟩
          have HB3 : Hid (Below w.heap.size w W3) := HBV.out.trans (hb3.mono HBV.out.size)
          obtain ⟨c0, c1, c2, f0, f1, f2⟩ := HCV.out.later hb3
          clear hb3 HBV HCV HUN
          go_wp2
          refine bodyPost_ret (v := .tuple #[.agg #[.int .i64 (q0 : Int), .string t24, .string ub], .bool true]) (by simp [results, Try.results20, go_sem, c0, c1, c2]; try rfl) rfl ?_
          exact ⟨rfl, ((HB3.out.setCell (p := ⟨w.heap.size, 0, none⟩) (Nat.le_refl _) _).setCell (p := ⟨w.heap.size, 1, none⟩) (Nat.le_refl _) _).setCell (p := ⟨w.heap.size, 2, none⟩) (Nat.le_refl _) _⟩
        · have e1 : ((q1 : Int) != (C : Int)) = true := by rw [bne_iff_ne]; omega
          go_wp2
          go_quiet (first | (go_at_call 50; exact Calls.quiet_of_same (HH.out _)) | (go_at_call 54; exact Calls.quiet_of_same (HCK.out _)))
          have hbv : Below w.heap.size w (W2.drewN nq) := below_drewN HB2.out nq
          have hcv : C3 (W2.drewN nq) w.heap.size 0 ⟨#[]⟩ ⟨#[]⟩ := HC2.out.later (below_drewN (Below.refl _ _) nq)
          generalize W2.drewN nq = V at hbv hcv ⊢
          have HBV : Hid (Below w.heap.size w V) := hbv
          have hF2 := HF2.out
          rw [if_neg (fun h => hq' h.2)] at hF2
          simp only [Prod.mk.injEq] at hF2
          obtain ⟨hn1, hn2, hn3, hn4⟩ := hF2
          subst hn1; subst hn2; subst hn3; subst hn4
          obtain ⟨c0, c1, c2, f0, f1, f2⟩ := hcv
          clear HF2 HX2 HB2 HC2 HUN hbv
          go_wp2
          refine bodyPost_ret (v := .tuple #[.agg #[.int .i64 0, .string ByteArray.empty, .string ByteArray.empty], .bool false]) (by simp [results, Try.results20, go_sem, c0, c1, c2]; try rfl) rfl ?_
          exact ⟨rfl, ((HBV.out.setCell (p := ⟨w.heap.size, 0, none⟩) (Nat.le_refl _) _).setCell (p := ⟨w.heap.size, 1, none⟩) (Nat.le_refl _) _).setCell (p := ⟨w.heap.size, 2, none⟩) (Nat.le_refl _) _⟩
      · rw [decide_eq_false hq] at HH
        go_wp2
        go_quiet (first | (go_at_call 50; exact Calls.quiet_of_same (HH.out _)) | (go_at_call 54; exact Calls.quiet_of_same (HCK.out _)))
        have hbv : Below w.heap.size w (W2.drewN nq) := below_drewN HB2.out nq
        have hcv : C3 (W2.drewN nq) w.heap.size 0 ⟨#[]⟩ ⟨#[]⟩ := HC2.out.later (below_drewN (Below.refl _ _) nq)
        generalize W2.drewN nq = V at hbv hcv ⊢
        have HBV : Hid (Below w.heap.size w V) := hbv
        have hF2 := HF2.out
        rw [if_neg (fun h => hq (by omega))] at hF2
        simp only [Prod.mk.injEq] at hF2
        obtain ⟨hn1, hn2, hn3, hn4⟩ := hF2
        subst hn1; subst hn2; subst hn3; subst hn4
        obtain ⟨c0, c1, c2, f0, f1, f2⟩ := hcv
        clear HF2 HX2 HB2 HC2 HUN hbv
        go_wp2
        refine bodyPost_ret (v := .tuple #[.agg #[.int .i64 0, .string ByteArray.empty, .string ByteArray.empty], .bool false]) (by simp [results, Try.results20, go_sem, c0, c1, c2]; try rfl) rfl ?_
        exact ⟨rfl, ((HBV.out.setCell (p := ⟨w.heap.size, 0, none⟩) (Nat.le_refl _) _).setCell (p := ⟨w.heap.size, 1, none⟩) (Nat.le_refl _) _).setCell (p := ⟨w.heap.size, 2, none⟩) (Nat.le_refl _) _⟩
    · have i1 : ((s.size : Int) != 24) = true := by rw [bne_iff_ne]; omega
      rw [peelF_no (fun h => h24 h.2)] at hF
      simp only [Prod.mk.injEq] at hF
      obtain ⟨rfl, rfl, rfl, rfl⟩ := hF
      clear hb
      go_enter Try.func20, Try.ntmps20
      go_wp2_with (go_at_call 63; refine (HK.out _).mono ?_; clear HK; rintro e w' ⟨rfl, hw⟩; subst w')
      refine bodyPost_ret (v := .tuple #[.agg #[.int .i64 0, .string ByteArray.empty, .string ByteArray.empty], .bool false]) (by simp [results, Try.results20, go_sem, results]; try rfl) rfl ?_
      exact ⟨rfl, HB0.out⟩

end Go.Proofs.Ytnfoflijapbkdaa
