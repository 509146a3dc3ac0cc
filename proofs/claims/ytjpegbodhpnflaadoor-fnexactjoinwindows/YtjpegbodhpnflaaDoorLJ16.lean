/- Chapter 16: the law of JoinWindows. -/
import Derived.Test.YtjpegbodhpnflaaDoorJE16
import Derived.Deep.RegionHeld3
import Derived.Deep.DrawnRows
import Derived.Deep.DeepCutAuto
import Derived.Deep.Light
namespace Go.Proofs.YtjpegbodhpnflaaDoor
set_option linter.unusedVariables false
set_option maxRecDepth 1000000
set_option linter.unusedSimpArgs false
open Go.RowKit

set_option maxHeartbeats 8000000 in
theorem lawJoinW_c (t x u y : Int) (w : World) (wt : -9223372036854775808 ≤ t ∧ t ≤ 9223372036854775807) (wx : -9223372036854775808 ≤ x ∧ x ≤ 9223372036854775807) (wu : -9223372036854775808 ≤ u ∧ u ≤ 9223372036854775807) (wy : -9223372036854775808 ≤ y ∧ y ≤ 9223372036854775807) (ht : Tb w) :
    Calls Tryd.prog 10 #[.agg #[.int .i64 t, .int .i64 x], .agg #[.int .i64 u, .int .i64 y]] w fun e w' => e = .returned (.bool true) ∧ Below w.heap.size w w' := by
  obtain ⟨w0, hw0⟩ : ∃ X, (w.alloc (.cells #[.int .i64 t, .int .i64 x] 47)).alloc (.cells #[.int .i64 u, .int .i64 y] 47) = X := ⟨_, rfl⟩
  have A_b : FX w0 w.heap.size (.int .i64 t) (.int .i64 x) := by rw [← hw0]; exact (fx_new w _ _ _).later (balloc _ _)
  have C_b : FX w0 (w.heap.size + 1) (.int .i64 u) (.int .i64 y) := by
    have h := fx_new (w.alloc (.cells #[.int .i64 t, .int .i64 x] 47)) (.int .i64 u) (.int .i64 y) 47
    rw [show (w.alloc (.cells #[.int .i64 t, .int .i64 x] 47)).heap.size = w.heap.size + 1 by simp] at h
    rw [← hw0]; exact h
  have B_b : Below w.heap.size w w0 := by rw [← hw0]; exact ((Below.refl _ _).alloc (Nat.le_refl _) _).alloc (by simp) _
  have QT1 : Hid (∀ wx, Calls Tryd.prog 31 #[.agg #[.int .i64 t, .int .i64 x]] wx fun e w' => e = .returned (.agg #[.int .i64 t, .int .i64 x]) ∧ Below wx.heap.size wx w') := fun wx => toWindow_c t x wx
  have QT2 : Hid (∀ wx, Calls Tryd.prog 31 #[.agg #[.int .i64 u, .int .i64 y]] wx fun e w' => e = .returned (.agg #[.int .i64 u, .int .i64 y]) ∧ Below wx.heap.size wx w') := fun wx => toWindow_c u y wx
  have QS : Hid (∀ wx, Calls Tryd.prog 24 #[.agg #[.int .i64 t, .int .i64 x], .agg #[.int .i64 u, .int .i64 y]] wx fun e w' => e = .returned (.tuple #[.agg #[.int .i64 (joinT t x u y).1, .int .i64 (joinT t x u y).2], .bool (joinOk t x u y)]) ∧ Below wx.heap.size wx w') := fun wx2 => specJoin_c t x u y wx2 wt wu wx wy
  have QI : Hid (∀ wx, Below w.heap.size w wx → Calls Tryd.prog 23 #[.agg #[.int .i64 t, .int .i64 x], .agg #[.int .i64 u, .int .i64 y]] wx fun e w' => e = .returned (.tuple #[.agg #[.int .i64 (joinT t x u y).1, .int .i64 (joinT t x u y).2], .bool (joinOk t x u y)]) ∧ Below wx.heap.size wx w') := fun wx2 h => implJoin_c t x u y wx2 (ht.later h) wx wy
  generalize (joinT t x u y).1 = T at QS QI
  generalize (joinT t x u y).2 = R at QS QI
  generalize joinOk t x u y = ok at QS QI
  have hR : (ok != ok) = false := by simp
  have QE : Hid (∀ wx, Calls Tryd.prog 32 #[.agg #[.int .i64 T, .int .i64 R], .agg #[.int .i64 T, .int .i64 R]] wx fun e w' => e = .returned (.bool true) ∧ Below wx.heap.size wx w') := fun wx => eqWindow_c T R wx
  clear wt wx wu wy ht
  go_enter Tryd.func10, Tryd.ntmps10
  go_upto_region 1 with fail
  clear hw0
  go_cut [5, 6] (fun u5 u6 wx => ∃ g1 : Nat, u5 = .pointer (some ⟨g1, 0, none⟩) ∧ u6 = .bool ok ∧ FX wx g1 (.int .i64 T) (.int .i64 R) ∧ FX wx w.heap.size (.int .i64 t) (.int .i64 x) ∧ FX wx (w.heap.size + 1) (.int .i64 u) (.int .i64 y) ∧ Below w.heap.size w wx)
  case first =>
    refine wp_region_held_drew (S := (fun X => (X.cell? ⟨w.heap.size, 0, none⟩ = some (.int .i64 t) ∧ X.cell? ⟨w.heap.size, 1, none⟩ = some (.int .i64 x)) ∧ X.cell? ⟨w.heap.size + 1, 0, none⟩ = some (.int .i64 u) ∧ X.cell? ⟨w.heap.size + 1, 1, none⟩ = some (.int .i64 y))) (by kernel_rfl) ?_ (fun hHeld => ?_)
    · exact ⟨⟨A_b.2.1, A_b.2.2.1⟩, C_b.2.1, C_b.2.2.1⟩
    obtain ⟨v0, hv0⟩ : ∃ D, w0.drew = D := ⟨_, rfl⟩
    have A_0 : FX v0 w.heap.size (.int .i64 t) (.int .i64 x) := by rw [← hv0]; exact A_b
    have C_0 : FX v0 (w.heap.size + 1) (.int .i64 u) (.int .i64 y) := by rw [← hv0]; exact C_b
    have B_0 : Below w.heap.size w v0 := by rw [← hv0]; exact B_b.drew
    have hz0 : w0.heap.size ≤ v0.heap.size := by rw [← hv0]; exact Nat.le_refl _
    rw [hv0] at hHeld ⊢
    clear hv0
    refine takeJE16 (i := 0) (oi := _) (v := ?_) (d := some 10) rfl (by kernel_rfl) (by kernel_rfl) (by kernel_rfl) (by kernel_rfl) (fun _ _ _ h => h) (Or.inl ⟨by rfl, ?_⟩) (by assumption) ?_
    rotate_left
    · (intro w hSw; (try dsimp only at hSw); go_simp <;> with_reducible rfl)
    try simp only [Act.put, List.setIfInBounds_toArray, List.set_cons_zero, List.set_cons_succ]
    refine takeJE16 (i := 2) (oi := _) (v := ?_) (d := some 12) rfl (by kernel_rfl) (by kernel_rfl) (by kernel_rfl) (by kernel_rfl) (fun _ _ _ h => h) (Or.inl ⟨by rfl, ?_⟩) (by assumption) ?_
    rotate_left
    · (intro w hSw; (try dsimp only at hSw); go_simp <;> with_reducible rfl)
    try simp only [Act.put, List.setIfInBounds_toArray, List.set_cons_zero, List.set_cons_succ]
    refine wpAnyH_ready (rs := [1, 8]) (by kernel_rfl) (by simp) ?_
    refine AllReadyH.cons (o := _) rfl (fun K hK => ?cj1) (AllReadyH.cons (o := _) rfl (fun K hK => ?cj2) AllReadyH.nil)
    case' cj1 =>
      go_simp
      refine (QT1.out _).mono ?_
      rintro e v1 ⟨rfl, hb⟩
      have A_1 : FX v1 w.heap.size (.int .i64 t) (.int .i64 x) := A_0.later hb
      have C_1 : FX v1 (w.heap.size + 1) (.int .i64 u) (.int .i64 y) := C_0.later hb
      have B_1 : Below w.heap.size w v1 := B_0.trans (hb.mono B_0.size)
      have hz1 : w0.heap.size ≤ v1.heap.size := Nat.le_trans hz0 hb.size
      refine hK.out _ _ ?_ (fun hHeld => ?_)
      · exact ⟨⟨A_1.2.1, A_1.2.2.1⟩, C_1.2.1, C_1.2.2.1⟩
      clear hK K hb A_0 C_0 B_0
      try simp only [Act.put, List.setIfInBounds_toArray, List.set_cons_zero, List.set_cons_succ]
      refine wpAnyH_ready (rs := [3, 8]) (by kernel_rfl) (by simp) ?_
      refine AllReadyH.cons (o := _) rfl (fun K hK => ?cj3) (AllReadyH.cons (o := _) rfl (fun K hK => ?cj4) AllReadyH.nil)
      case' cj3 =>
        go_simp
        refine (QT2.out _).mono ?_
        rintro e v2 ⟨rfl, hb⟩
        have A_2 : FX v2 w.heap.size (.int .i64 t) (.int .i64 x) := A_1.later hb
        have C_2 : FX v2 (w.heap.size + 1) (.int .i64 u) (.int .i64 y) := C_1.later hb
        have B_2 : Below w.heap.size w v2 := B_1.trans (hb.mono B_1.size)
        have hz2 : w0.heap.size ≤ v2.heap.size := Nat.le_trans hz1 hb.size
        refine hK.out _ _ ?_ (fun hHeld => ?_)
        · exact ⟨⟨A_2.2.1, A_2.2.2.1⟩, C_2.2.1, C_2.2.2.1⟩
        clear hK K hb A_1 C_1 B_1
        try simp only [Act.put, List.setIfInBounds_toArray, List.set_cons_zero, List.set_cons_succ]
        refine wpAnyH_ready (rs := [4, 8]) (by kernel_rfl) (by simp) ?_
        refine AllReadyH.cons (o := _) rfl (fun K hK => ?cj5) (AllReadyH.cons (o := _) rfl (fun K hK => ?cj6) AllReadyH.nil)
        case' cj5 =>
          go_simp
          refine (QS.out _).mono ?_
          rintro e v3 ⟨rfl, hb⟩
          have A_3 : FX v3 w.heap.size (.int .i64 t) (.int .i64 x) := A_2.later hb
          have C_3 : FX v3 (w.heap.size + 1) (.int .i64 u) (.int .i64 y) := C_2.later hb
          have B_3 : Below w.heap.size w v3 := B_2.trans (hb.mono B_2.size)
          have hz3 : w0.heap.size ≤ v3.heap.size := Nat.le_trans hz2 hb.size
          refine hK.out _ _ ?_ (fun hHeld => ?_)
          · exact ⟨⟨A_3.2.1, A_3.2.2.1⟩, C_3.2.1, C_3.2.2.1⟩
          clear hK K hb A_2 C_2 B_2
          try simp only [Act.put, List.setIfInBounds_toArray, List.set_cons_zero, List.set_cons_succ]
          refine takeJE16 (i := 5) (oi := _) (v := ?_) (d := some 9) rfl (by kernel_rfl) (by kernel_rfl) (by kernel_rfl) (by kernel_rfl) (fun _ _ _ h => h) (Or.inl ⟨by rfl, ?_⟩) (by assumption) ?_
          rotate_left
          · (intro w hSw; (try dsimp only at hSw); go_simp <;> with_reducible rfl)
          try simp only [Act.put, List.setIfInBounds_toArray, List.set_cons_zero, List.set_cons_succ]
          refine takeJE16 (i := 6) (oi := _) (v := ?_) (d := some 15) rfl (by kernel_rfl) (by kernel_rfl) (by kernel_rfl) (by kernel_rfl) (fun _ _ _ h => h) (Or.inl ⟨by rfl, ?_⟩) (by assumption) ?_
          rotate_left
          · (intro w hSw; (try dsimp only at hSw); go_simp <;> with_reducible rfl)
          try simp only [Act.put, List.setIfInBounds_toArray, List.set_cons_zero, List.set_cons_succ]
          refine takeJE16 (i := 7) (oi := _) (v := ?_) (d := some 16) rfl (by kernel_rfl) (by kernel_rfl) (by kernel_rfl) (by kernel_rfl) (fun _ _ _ h => h) (Or.inl ⟨by rfl, ?_⟩) (by assumption) ?_
          rotate_left
          · (intro w hSw; (try dsimp only at hSw); go_simp <;> with_reducible rfl)
          try simp only [Act.put, List.setIfInBounds_toArray, List.set_cons_zero, List.set_cons_succ]
          refine wpAnyH_ready (rs := [8]) (by kernel_rfl) (by simp) ?_
          refine AllReadyH.cons (o := _) rfl (fun K hK => ?cj7) AllReadyH.nil
          case' cj7 =>
            go_simp
            obtain ⟨v4, hV⟩ : ∃ X, v3.alloc (.cells #[.int .i64 0, .int .i64 0] 26) = X := ⟨_, rfl⟩
            have hb : Below v3.heap.size v3 v4 := by rw [← hV]; exact balloc _ _
            have A_4 : FX v4 w.heap.size (.int .i64 t) (.int .i64 x) := A_3.later hb
            have C_4 : FX v4 (w.heap.size + 1) (.int .i64 u) (.int .i64 y) := C_3.later hb
            have G_4 : FX v4 v3.heap.size (.int .i64 0) (.int .i64 0) := by rw [← hV]; exact fx_new v3 _ _ _
            have B_4 : Below w.heap.size w v4 := B_3.trans (hb.mono B_3.size)
            have hz4 : w0.heap.size ≤ v4.heap.size := Nat.le_trans hz3 hb.size
            try rw [hV]
            refine hK.out _ _ ?_ (fun hHeld => ?_)
            · exact ⟨⟨A_4.2.1, A_4.2.2.1⟩, C_4.2.1, C_4.2.2.1⟩
            clear hK K hV hb A_3 C_3 B_3
            try simp only [Act.put, List.setIfInBounds_toArray, List.set_cons_zero, List.set_cons_succ]
            obtain ⟨_, c0, c1, f0, f1⟩ := id G_4
            obtain ⟨V, hV⟩ : ∃ X, (v4.setCell ⟨v3.heap.size, 0, none⟩ (.int .i64 T)).setCell ⟨v3.heap.size, 1, none⟩ (.int .i64 R) = X := ⟨_, rfl⟩
            have G_v : FX V v3.heap.size (.int .i64 T) (.int .i64 R) := by rw [← hV]; exact G_4.set _ _
            have A_v : FX V w.heap.size (.int .i64 t) (.int .i64 x) := by rw [← hV]; exact A_4.other (by have := A_b.1; omega) _ _
            have C_v : FX V (w.heap.size + 1) (.int .i64 u) (.int .i64 y) := by rw [← hV]; exact C_4.other (by have := C_b.1; omega) _ _
            have B_v : Below w.heap.size w V := by rw [← hV]; exact (B_4.setCell (p := ⟨v3.heap.size, 0, none⟩) (by show w.heap.size ≤ v3.heap.size; have := A_b.1; omega) _).setCell (p := ⟨v3.heap.size, 1, none⟩) (by show w.heap.size ≤ v3.heap.size; have := A_b.1; omega) _
            refine wpAnyH_ready (rs := [9]) (by kernel_rfl) (by simp) ?_
            refine AllReadyH.cons (o := _) rfl (fun K hK => ?_) AllReadyH.nil
            go_simp
            refine hK.out _ _ ?_ (fun hHeld => ?_)
            · rw [← hV]; rw [hV]; exact ⟨⟨A_v.2.1, A_v.2.2.1⟩, C_v.2.1, C_v.2.2.1⟩
            clear hK K
            try simp only [Act.put, List.setIfInBounds_toArray, List.set_cons_zero, List.set_cons_succ]
            refine takeJE16 (i := 10) (oi := _) (v := ?_) (d := some 6) rfl (by kernel_rfl) (by kernel_rfl) (by kernel_rfl) (by kernel_rfl) (fun _ _ _ h => h) (Or.inl ⟨by rfl, ?_⟩) (by assumption) ?_
            rotate_left
            · (intro w hSw; (try dsimp only at hSw); go_simp <;> with_reducible rfl)
            try simp only [Act.put, List.setIfInBounds_toArray, List.set_cons_zero, List.set_cons_succ]
            refine wpAnyH_done (by kernel_rfl) ?_ _
            try rw [hV]
            clear hV hHeld c0 c1 f0 f1
            go_wp2_with fail
            go_meet
            exact ⟨v3.heap.size, rfl, rfl, G_v, A_v, C_v, B_v⟩
        case' cj6 =>
          go_simp
          obtain ⟨v3, hV⟩ : ∃ X, v2.alloc (.cells #[.int .i64 0, .int .i64 0] 26) = X := ⟨_, rfl⟩
          have hb : Below v2.heap.size v2 v3 := by rw [← hV]; exact balloc _ _
          have A_3 : FX v3 w.heap.size (.int .i64 t) (.int .i64 x) := A_2.later hb
          have C_3 : FX v3 (w.heap.size + 1) (.int .i64 u) (.int .i64 y) := C_2.later hb
          have G_3 : FX v3 v2.heap.size (.int .i64 0) (.int .i64 0) := by rw [← hV]; exact fx_new v2 _ _ _
          have B_3 : Below w.heap.size w v3 := B_2.trans (hb.mono B_2.size)
          have hz3 : w0.heap.size ≤ v3.heap.size := Nat.le_trans hz2 hb.size
          try rw [hV]
          refine hK.out _ _ ?_ (fun hHeld => ?_)
          · exact ⟨⟨A_3.2.1, A_3.2.2.1⟩, C_3.2.1, C_3.2.2.1⟩
          clear hK K hV hb A_2 C_2 B_2
          try simp only [Act.put, List.setIfInBounds_toArray, List.set_cons_zero, List.set_cons_succ]
          refine wpAnyH_ready (rs := [4]) (by kernel_rfl) (by simp) ?_
          refine AllReadyH.cons (o := _) rfl (fun K hK => ?cj8) AllReadyH.nil
          case' cj8 =>
            go_simp
            refine (QS.out _).mono ?_
            rintro e v4 ⟨rfl, hb⟩
            have A_4 : FX v4 w.heap.size (.int .i64 t) (.int .i64 x) := A_3.later hb
            have C_4 : FX v4 (w.heap.size + 1) (.int .i64 u) (.int .i64 y) := C_3.later hb
            have G_4 : FX v4 v2.heap.size (.int .i64 0) (.int .i64 0) := G_3.later hb
            have B_4 : Below w.heap.size w v4 := B_3.trans (hb.mono B_3.size)
            have hz4 : w0.heap.size ≤ v4.heap.size := Nat.le_trans hz3 hb.size
            refine hK.out _ _ ?_ (fun hHeld => ?_)
            · exact ⟨⟨A_4.2.1, A_4.2.2.1⟩, C_4.2.1, C_4.2.2.1⟩
            clear hK K hb A_3 C_3 G_3 B_3
            try simp only [Act.put, List.setIfInBounds_toArray, List.set_cons_zero, List.set_cons_succ]
            refine takeJE16 (i := 5) (oi := _) (v := ?_) (d := some 9) rfl (by kernel_rfl) (by kernel_rfl) (by kernel_rfl) (by kernel_rfl) (fun _ _ _ h => h) (Or.inl ⟨by rfl, ?_⟩) (by assumption) ?_
            rotate_left
            · (intro w hSw; (try dsimp only at hSw); go_simp <;> with_reducible rfl)
            try simp only [Act.put, List.setIfInBounds_toArray, List.set_cons_zero, List.set_cons_succ]
            refine takeJE16 (i := 6) (oi := _) (v := ?_) (d := some 15) rfl (by kernel_rfl) (by kernel_rfl) (by kernel_rfl) (by kernel_rfl) (fun _ _ _ h => h) (Or.inl ⟨by rfl, ?_⟩) (by assumption) ?_
            rotate_left
            · (intro w hSw; (try dsimp only at hSw); go_simp <;> with_reducible rfl)
            try simp only [Act.put, List.setIfInBounds_toArray, List.set_cons_zero, List.set_cons_succ]
            refine takeJE16 (i := 7) (oi := _) (v := ?_) (d := some 16) rfl (by kernel_rfl) (by kernel_rfl) (by kernel_rfl) (by kernel_rfl) (fun _ _ _ h => h) (Or.inl ⟨by rfl, ?_⟩) (by assumption) ?_
            rotate_left
            · (intro w hSw; (try dsimp only at hSw); go_simp <;> with_reducible rfl)
            try simp only [Act.put, List.setIfInBounds_toArray, List.set_cons_zero, List.set_cons_succ]
            obtain ⟨_, c0, c1, f0, f1⟩ := id G_4
            obtain ⟨V, hV⟩ : ∃ X, (v4.setCell ⟨v2.heap.size, 0, none⟩ (.int .i64 T)).setCell ⟨v2.heap.size, 1, none⟩ (.int .i64 R) = X := ⟨_, rfl⟩
            have G_v : FX V v2.heap.size (.int .i64 T) (.int .i64 R) := by rw [← hV]; exact G_4.set _ _
            have A_v : FX V w.heap.size (.int .i64 t) (.int .i64 x) := by rw [← hV]; exact A_4.other (by have := A_b.1; omega) _ _
            have C_v : FX V (w.heap.size + 1) (.int .i64 u) (.int .i64 y) := by rw [← hV]; exact C_4.other (by have := C_b.1; omega) _ _
            have B_v : Below w.heap.size w V := by rw [← hV]; exact (B_4.setCell (p := ⟨v2.heap.size, 0, none⟩) (by show w.heap.size ≤ v2.heap.size; have := A_b.1; omega) _).setCell (p := ⟨v2.heap.size, 1, none⟩) (by show w.heap.size ≤ v2.heap.size; have := A_b.1; omega) _
            refine wpAnyH_ready (rs := [9]) (by kernel_rfl) (by simp) ?_
            refine AllReadyH.cons (o := _) rfl (fun K hK => ?_) AllReadyH.nil
            go_simp
            refine hK.out _ _ ?_ (fun hHeld => ?_)
            · rw [← hV]; rw [hV]; exact ⟨⟨A_v.2.1, A_v.2.2.1⟩, C_v.2.1, C_v.2.2.1⟩
            clear hK K
            try simp only [Act.put, List.setIfInBounds_toArray, List.set_cons_zero, List.set_cons_succ]
            refine takeJE16 (i := 10) (oi := _) (v := ?_) (d := some 6) rfl (by kernel_rfl) (by kernel_rfl) (by kernel_rfl) (by kernel_rfl) (fun _ _ _ h => h) (Or.inl ⟨by rfl, ?_⟩) (by assumption) ?_
            rotate_left
            · (intro w hSw; (try dsimp only at hSw); go_simp <;> with_reducible rfl)
            try simp only [Act.put, List.setIfInBounds_toArray, List.set_cons_zero, List.set_cons_succ]
            refine wpAnyH_done (by kernel_rfl) ?_ _
            try rw [hV]
            clear hV hHeld c0 c1 f0 f1
            go_wp2_with fail
            go_meet
            exact ⟨v2.heap.size, rfl, rfl, G_v, A_v, C_v, B_v⟩
      case' cj4 =>
        go_simp
        obtain ⟨v2, hV⟩ : ∃ X, v1.alloc (.cells #[.int .i64 0, .int .i64 0] 26) = X := ⟨_, rfl⟩
        have hb : Below v1.heap.size v1 v2 := by rw [← hV]; exact balloc _ _
        have A_2 : FX v2 w.heap.size (.int .i64 t) (.int .i64 x) := A_1.later hb
        have C_2 : FX v2 (w.heap.size + 1) (.int .i64 u) (.int .i64 y) := C_1.later hb
        have G_2 : FX v2 v1.heap.size (.int .i64 0) (.int .i64 0) := by rw [← hV]; exact fx_new v1 _ _ _
        have B_2 : Below w.heap.size w v2 := B_1.trans (hb.mono B_1.size)
        have hz2 : w0.heap.size ≤ v2.heap.size := Nat.le_trans hz1 hb.size
        try rw [hV]
        refine hK.out _ _ ?_ (fun hHeld => ?_)
        · exact ⟨⟨A_2.2.1, A_2.2.2.1⟩, C_2.2.1, C_2.2.2.1⟩
        clear hK K hV hb A_1 C_1 B_1
        try simp only [Act.put, List.setIfInBounds_toArray, List.set_cons_zero, List.set_cons_succ]
        refine wpAnyH_ready (rs := [3]) (by kernel_rfl) (by simp) ?_
        refine AllReadyH.cons (o := _) rfl (fun K hK => ?cj9) AllReadyH.nil
        case' cj9 =>
          go_simp
          refine (QT2.out _).mono ?_
          rintro e v3 ⟨rfl, hb⟩
          have A_3 : FX v3 w.heap.size (.int .i64 t) (.int .i64 x) := A_2.later hb
          have C_3 : FX v3 (w.heap.size + 1) (.int .i64 u) (.int .i64 y) := C_2.later hb
          have G_3 : FX v3 v1.heap.size (.int .i64 0) (.int .i64 0) := G_2.later hb
          have B_3 : Below w.heap.size w v3 := B_2.trans (hb.mono B_2.size)
          have hz3 : w0.heap.size ≤ v3.heap.size := Nat.le_trans hz2 hb.size
          refine hK.out _ _ ?_ (fun hHeld => ?_)
          · exact ⟨⟨A_3.2.1, A_3.2.2.1⟩, C_3.2.1, C_3.2.2.1⟩
          clear hK K hb A_2 C_2 G_2 B_2
          try simp only [Act.put, List.setIfInBounds_toArray, List.set_cons_zero, List.set_cons_succ]
          refine wpAnyH_ready (rs := [4]) (by kernel_rfl) (by simp) ?_
          refine AllReadyH.cons (o := _) rfl (fun K hK => ?cj10) AllReadyH.nil
          case' cj10 =>
            go_simp
            refine (QS.out _).mono ?_
            rintro e v4 ⟨rfl, hb⟩
            have A_4 : FX v4 w.heap.size (.int .i64 t) (.int .i64 x) := A_3.later hb
            have C_4 : FX v4 (w.heap.size + 1) (.int .i64 u) (.int .i64 y) := C_3.later hb
            have G_4 : FX v4 v1.heap.size (.int .i64 0) (.int .i64 0) := G_3.later hb
            have B_4 : Below w.heap.size w v4 := B_3.trans (hb.mono B_3.size)
            have hz4 : w0.heap.size ≤ v4.heap.size := Nat.le_trans hz3 hb.size
            refine hK.out _ _ ?_ (fun hHeld => ?_)
            · exact ⟨⟨A_4.2.1, A_4.2.2.1⟩, C_4.2.1, C_4.2.2.1⟩
            clear hK K hb A_3 C_3 G_3 B_3
            try simp only [Act.put, List.setIfInBounds_toArray, List.set_cons_zero, List.set_cons_succ]
            refine takeJE16 (i := 5) (oi := _) (v := ?_) (d := some 9) rfl (by kernel_rfl) (by kernel_rfl) (by kernel_rfl) (by kernel_rfl) (fun _ _ _ h => h) (Or.inl ⟨by rfl, ?_⟩) (by assumption) ?_
            rotate_left
            · (intro w hSw; (try dsimp only at hSw); go_simp <;> with_reducible rfl)
            try simp only [Act.put, List.setIfInBounds_toArray, List.set_cons_zero, List.set_cons_succ]
            refine takeJE16 (i := 6) (oi := _) (v := ?_) (d := some 15) rfl (by kernel_rfl) (by kernel_rfl) (by kernel_rfl) (by kernel_rfl) (fun _ _ _ h => h) (Or.inl ⟨by rfl, ?_⟩) (by assumption) ?_
            rotate_left
            · (intro w hSw; (try dsimp only at hSw); go_simp <;> with_reducible rfl)
            try simp only [Act.put, List.setIfInBounds_toArray, List.set_cons_zero, List.set_cons_succ]
            refine takeJE16 (i := 7) (oi := _) (v := ?_) (d := some 16) rfl (by kernel_rfl) (by kernel_rfl) (by kernel_rfl) (by kernel_rfl) (fun _ _ _ h => h) (Or.inl ⟨by rfl, ?_⟩) (by assumption) ?_
            rotate_left
            · (intro w hSw; (try dsimp only at hSw); go_simp <;> with_reducible rfl)
            try simp only [Act.put, List.setIfInBounds_toArray, List.set_cons_zero, List.set_cons_succ]
            obtain ⟨_, c0, c1, f0, f1⟩ := id G_4
            obtain ⟨V, hV⟩ : ∃ X, (v4.setCell ⟨v1.heap.size, 0, none⟩ (.int .i64 T)).setCell ⟨v1.heap.size, 1, none⟩ (.int .i64 R) = X := ⟨_, rfl⟩
            have G_v : FX V v1.heap.size (.int .i64 T) (.int .i64 R) := by rw [← hV]; exact G_4.set _ _
            have A_v : FX V w.heap.size (.int .i64 t) (.int .i64 x) := by rw [← hV]; exact A_4.other (by have := A_b.1; omega) _ _
            have C_v : FX V (w.heap.size + 1) (.int .i64 u) (.int .i64 y) := by rw [← hV]; exact C_4.other (by have := C_b.1; omega) _ _
            have B_v : Below w.heap.size w V := by rw [← hV]; exact (B_4.setCell (p := ⟨v1.heap.size, 0, none⟩) (by show w.heap.size ≤ v1.heap.size; have := A_b.1; omega) _).setCell (p := ⟨v1.heap.size, 1, none⟩) (by show w.heap.size ≤ v1.heap.size; have := A_b.1; omega) _
            refine wpAnyH_ready (rs := [9]) (by kernel_rfl) (by simp) ?_
            refine AllReadyH.cons (o := _) rfl (fun K hK => ?_) AllReadyH.nil
            go_simp
            refine hK.out _ _ ?_ (fun hHeld => ?_)
            · rw [← hV]; rw [hV]; exact ⟨⟨A_v.2.1, A_v.2.2.1⟩, C_v.2.1, C_v.2.2.1⟩
            clear hK K
            try simp only [Act.put, List.setIfInBounds_toArray, List.set_cons_zero, List.set_cons_succ]
            refine takeJE16 (i := 10) (oi := _) (v := ?_) (d := some 6) rfl (by kernel_rfl) (by kernel_rfl) (by kernel_rfl) (by kernel_rfl) (fun _ _ _ h => h) (Or.inl ⟨by rfl, ?_⟩) (by assumption) ?_
            rotate_left
            · (intro w hSw; (try dsimp only at hSw); go_simp <;> with_reducible rfl)
            try simp only [Act.put, List.setIfInBounds_toArray, List.set_cons_zero, List.set_cons_succ]
            refine wpAnyH_done (by kernel_rfl) ?_ _
            try rw [hV]
            clear hV hHeld c0 c1 f0 f1
            go_wp2_with fail
            go_meet
            exact ⟨v1.heap.size, rfl, rfl, G_v, A_v, C_v, B_v⟩
    case' cj2 =>
      go_simp
      obtain ⟨v1, hV⟩ : ∃ X, v0.alloc (.cells #[.int .i64 0, .int .i64 0] 26) = X := ⟨_, rfl⟩
      have hb : Below v0.heap.size v0 v1 := by rw [← hV]; exact balloc _ _
      have A_1 : FX v1 w.heap.size (.int .i64 t) (.int .i64 x) := A_0.later hb
      have C_1 : FX v1 (w.heap.size + 1) (.int .i64 u) (.int .i64 y) := C_0.later hb
      have G_1 : FX v1 v0.heap.size (.int .i64 0) (.int .i64 0) := by rw [← hV]; exact fx_new v0 _ _ _
      have B_1 : Below w.heap.size w v1 := B_0.trans (hb.mono B_0.size)
      have hz1 : w0.heap.size ≤ v1.heap.size := Nat.le_trans hz0 hb.size
      try rw [hV]
      refine hK.out _ _ ?_ (fun hHeld => ?_)
      · exact ⟨⟨A_1.2.1, A_1.2.2.1⟩, C_1.2.1, C_1.2.2.1⟩
      clear hK K hV hb A_0 C_0 B_0
      try simp only [Act.put, List.setIfInBounds_toArray, List.set_cons_zero, List.set_cons_succ]
      refine wpAnyH_ready (rs := [1]) (by kernel_rfl) (by simp) ?_
      refine AllReadyH.cons (o := _) rfl (fun K hK => ?cj11) AllReadyH.nil
      case' cj11 =>
        go_simp
        refine (QT1.out _).mono ?_
        rintro e v2 ⟨rfl, hb⟩
        have A_2 : FX v2 w.heap.size (.int .i64 t) (.int .i64 x) := A_1.later hb
        have C_2 : FX v2 (w.heap.size + 1) (.int .i64 u) (.int .i64 y) := C_1.later hb
        have G_2 : FX v2 v0.heap.size (.int .i64 0) (.int .i64 0) := G_1.later hb
        have B_2 : Below w.heap.size w v2 := B_1.trans (hb.mono B_1.size)
        have hz2 : w0.heap.size ≤ v2.heap.size := Nat.le_trans hz1 hb.size
        refine hK.out _ _ ?_ (fun hHeld => ?_)
        · exact ⟨⟨A_2.2.1, A_2.2.2.1⟩, C_2.2.1, C_2.2.2.1⟩
        clear hK K hb A_1 C_1 G_1 B_1
        try simp only [Act.put, List.setIfInBounds_toArray, List.set_cons_zero, List.set_cons_succ]
        refine wpAnyH_ready (rs := [3]) (by kernel_rfl) (by simp) ?_
        refine AllReadyH.cons (o := _) rfl (fun K hK => ?cj12) AllReadyH.nil
        case' cj12 =>
          go_simp
          refine (QT2.out _).mono ?_
          rintro e v3 ⟨rfl, hb⟩
          have A_3 : FX v3 w.heap.size (.int .i64 t) (.int .i64 x) := A_2.later hb
          have C_3 : FX v3 (w.heap.size + 1) (.int .i64 u) (.int .i64 y) := C_2.later hb
          have G_3 : FX v3 v0.heap.size (.int .i64 0) (.int .i64 0) := G_2.later hb
          have B_3 : Below w.heap.size w v3 := B_2.trans (hb.mono B_2.size)
          have hz3 : w0.heap.size ≤ v3.heap.size := Nat.le_trans hz2 hb.size
          refine hK.out _ _ ?_ (fun hHeld => ?_)
          · exact ⟨⟨A_3.2.1, A_3.2.2.1⟩, C_3.2.1, C_3.2.2.1⟩
          clear hK K hb A_2 C_2 G_2 B_2
          try simp only [Act.put, List.setIfInBounds_toArray, List.set_cons_zero, List.set_cons_succ]
          refine wpAnyH_ready (rs := [4]) (by kernel_rfl) (by simp) ?_
          refine AllReadyH.cons (o := _) rfl (fun K hK => ?cj13) AllReadyH.nil
          case' cj13 =>
            go_simp
            refine (QS.out _).mono ?_
            rintro e v4 ⟨rfl, hb⟩
            have A_4 : FX v4 w.heap.size (.int .i64 t) (.int .i64 x) := A_3.later hb
            have C_4 : FX v4 (w.heap.size + 1) (.int .i64 u) (.int .i64 y) := C_3.later hb
            have G_4 : FX v4 v0.heap.size (.int .i64 0) (.int .i64 0) := G_3.later hb
            have B_4 : Below w.heap.size w v4 := B_3.trans (hb.mono B_3.size)
            have hz4 : w0.heap.size ≤ v4.heap.size := Nat.le_trans hz3 hb.size
            refine hK.out _ _ ?_ (fun hHeld => ?_)
            · exact ⟨⟨A_4.2.1, A_4.2.2.1⟩, C_4.2.1, C_4.2.2.1⟩
            clear hK K hb A_3 C_3 G_3 B_3
            try simp only [Act.put, List.setIfInBounds_toArray, List.set_cons_zero, List.set_cons_succ]
            refine takeJE16 (i := 5) (oi := _) (v := ?_) (d := some 9) rfl (by kernel_rfl) (by kernel_rfl) (by kernel_rfl) (by kernel_rfl) (fun _ _ _ h => h) (Or.inl ⟨by rfl, ?_⟩) (by assumption) ?_
            rotate_left
            · (intro w hSw; (try dsimp only at hSw); go_simp <;> with_reducible rfl)
            try simp only [Act.put, List.setIfInBounds_toArray, List.set_cons_zero, List.set_cons_succ]
            refine takeJE16 (i := 6) (oi := _) (v := ?_) (d := some 15) rfl (by kernel_rfl) (by kernel_rfl) (by kernel_rfl) (by kernel_rfl) (fun _ _ _ h => h) (Or.inl ⟨by rfl, ?_⟩) (by assumption) ?_
            rotate_left
            · (intro w hSw; (try dsimp only at hSw); go_simp <;> with_reducible rfl)
            try simp only [Act.put, List.setIfInBounds_toArray, List.set_cons_zero, List.set_cons_succ]
            refine takeJE16 (i := 7) (oi := _) (v := ?_) (d := some 16) rfl (by kernel_rfl) (by kernel_rfl) (by kernel_rfl) (by kernel_rfl) (fun _ _ _ h => h) (Or.inl ⟨by rfl, ?_⟩) (by assumption) ?_
            rotate_left
            · (intro w hSw; (try dsimp only at hSw); go_simp <;> with_reducible rfl)
            try simp only [Act.put, List.setIfInBounds_toArray, List.set_cons_zero, List.set_cons_succ]
            obtain ⟨_, c0, c1, f0, f1⟩ := id G_4
            obtain ⟨V, hV⟩ : ∃ X, (v4.setCell ⟨v0.heap.size, 0, none⟩ (.int .i64 T)).setCell ⟨v0.heap.size, 1, none⟩ (.int .i64 R) = X := ⟨_, rfl⟩
            have G_v : FX V v0.heap.size (.int .i64 T) (.int .i64 R) := by rw [← hV]; exact G_4.set _ _
            have A_v : FX V w.heap.size (.int .i64 t) (.int .i64 x) := by rw [← hV]; exact A_4.other (by have := A_b.1; omega) _ _
            have C_v : FX V (w.heap.size + 1) (.int .i64 u) (.int .i64 y) := by rw [← hV]; exact C_4.other (by have := C_b.1; omega) _ _
            have B_v : Below w.heap.size w V := by rw [← hV]; exact (B_4.setCell (p := ⟨v0.heap.size, 0, none⟩) (by show w.heap.size ≤ v0.heap.size; have := A_b.1; omega) _).setCell (p := ⟨v0.heap.size, 1, none⟩) (by show w.heap.size ≤ v0.heap.size; have := A_b.1; omega) _
            refine wpAnyH_ready (rs := [9]) (by kernel_rfl) (by simp) ?_
            refine AllReadyH.cons (o := _) rfl (fun K hK => ?_) AllReadyH.nil
            go_simp
            refine hK.out _ _ ?_ (fun hHeld => ?_)
            · rw [← hV]; rw [hV]; exact ⟨⟨A_v.2.1, A_v.2.2.1⟩, C_v.2.1, C_v.2.2.1⟩
            clear hK K
            try simp only [Act.put, List.setIfInBounds_toArray, List.set_cons_zero, List.set_cons_succ]
            refine takeJE16 (i := 10) (oi := _) (v := ?_) (d := some 6) rfl (by kernel_rfl) (by kernel_rfl) (by kernel_rfl) (by kernel_rfl) (fun _ _ _ h => h) (Or.inl ⟨by rfl, ?_⟩) (by assumption) ?_
            rotate_left
            · (intro w hSw; (try dsimp only at hSw); go_simp <;> with_reducible rfl)
            try simp only [Act.put, List.setIfInBounds_toArray, List.set_cons_zero, List.set_cons_succ]
            refine wpAnyH_done (by kernel_rfl) ?_ _
            try rw [hV]
            clear hV hHeld c0 c1 f0 f1
            go_wp2_with fail
            go_meet
            exact ⟨v0.heap.size, rfl, rfl, G_v, A_v, C_v, B_v⟩
  case rest =>
    obtain ⟨g1, rfl, rfl, Y_b, A_b, C_b, B_b⟩ := hcut
    obtain ⟨w1, rfl⟩ : ∃ V : World, V = wc := ⟨_, rfl⟩
    go_upto_region 2 with fail
    go_cut [7, 8] (fun u7 u8 wx => ∃ g2 : Nat, u7 = .pointer (some ⟨g2, 0, none⟩) ∧ u8 = .bool ok ∧ FX wx g2 (.int .i64 T) (.int .i64 R) ∧ FX wx w.heap.size (.int .i64 t) (.int .i64 x) ∧ FX wx (w.heap.size + 1) (.int .i64 u) (.int .i64 y) ∧ FX wx g1 (.int .i64 T) (.int .i64 R) ∧ Below w.heap.size w wx)
    case first =>
      refine wp_region_held_drew (S := (fun X => (X.cell? ⟨w.heap.size, 0, none⟩ = some (.int .i64 t) ∧ X.cell? ⟨w.heap.size, 1, none⟩ = some (.int .i64 x)) ∧ X.cell? ⟨w.heap.size + 1, 0, none⟩ = some (.int .i64 u) ∧ X.cell? ⟨w.heap.size + 1, 1, none⟩ = some (.int .i64 y))) (by kernel_rfl) ?_ (fun hHeld => ?_)
      · exact ⟨⟨A_b.2.1, A_b.2.2.1⟩, C_b.2.1, C_b.2.2.1⟩
      obtain ⟨v0, hv0⟩ : ∃ D, w1.drew = D := ⟨_, rfl⟩
      have A_0 : FX v0 w.heap.size (.int .i64 t) (.int .i64 x) := by rw [← hv0]; exact A_b
      have C_0 : FX v0 (w.heap.size + 1) (.int .i64 u) (.int .i64 y) := by rw [← hv0]; exact C_b
      have Y_0 : FX v0 g1 (.int .i64 T) (.int .i64 R) := by rw [← hv0]; exact Y_b
      have B_0 : Below w.heap.size w v0 := by rw [← hv0]; exact B_b.drew
      have hz0 : w1.heap.size ≤ v0.heap.size := by rw [← hv0]; exact Nat.le_refl _
      rw [hv0] at hHeld ⊢
      clear hv0
      refine takeJE16 (i := 0) (oi := _) (v := ?_) (d := some 18) rfl (by kernel_rfl) (by kernel_rfl) (by kernel_rfl) (by kernel_rfl) (fun _ _ _ h => h) (Or.inl ⟨by rfl, ?_⟩) (by assumption) ?_
      rotate_left
      · (intro w hSw; (try dsimp only at hSw); go_simp <;> with_reducible rfl)
      try simp only [Act.put, List.setIfInBounds_toArray, List.set_cons_zero, List.set_cons_succ]
      refine takeJE16 (i := 2) (oi := _) (v := ?_) (d := some 20) rfl (by kernel_rfl) (by kernel_rfl) (by kernel_rfl) (by kernel_rfl) (fun _ _ _ h => h) (Or.inl ⟨by rfl, ?_⟩) (by assumption) ?_
      rotate_left
      · (intro w hSw; (try dsimp only at hSw); go_simp <;> with_reducible rfl)
      try simp only [Act.put, List.setIfInBounds_toArray, List.set_cons_zero, List.set_cons_succ]
      refine wpAnyH_ready (rs := [1, 8]) (by kernel_rfl) (by simp) ?_
      refine AllReadyH.cons (o := _) rfl (fun K hK => ?cj14) (AllReadyH.cons (o := _) rfl (fun K hK => ?cj15) AllReadyH.nil)
      case' cj14 =>
        go_simp
        refine (QT1.out _).mono ?_
        rintro e v1 ⟨rfl, hb⟩
        have A_1 : FX v1 w.heap.size (.int .i64 t) (.int .i64 x) := A_0.later hb
        have C_1 : FX v1 (w.heap.size + 1) (.int .i64 u) (.int .i64 y) := C_0.later hb
        have Y_1 : FX v1 g1 (.int .i64 T) (.int .i64 R) := Y_0.later hb
        have B_1 : Below w.heap.size w v1 := B_0.trans (hb.mono B_0.size)
        have hz1 : w1.heap.size ≤ v1.heap.size := Nat.le_trans hz0 hb.size
        refine hK.out _ _ ?_ (fun hHeld => ?_)
        · exact ⟨⟨A_1.2.1, A_1.2.2.1⟩, C_1.2.1, C_1.2.2.1⟩
        clear hK K hb A_0 C_0 Y_0 B_0
        try simp only [Act.put, List.setIfInBounds_toArray, List.set_cons_zero, List.set_cons_succ]
        refine wpAnyH_ready (rs := [3, 8]) (by kernel_rfl) (by simp) ?_
        refine AllReadyH.cons (o := _) rfl (fun K hK => ?cj16) (AllReadyH.cons (o := _) rfl (fun K hK => ?cj17) AllReadyH.nil)
        case' cj16 =>
          go_simp
          refine (QT2.out _).mono ?_
          rintro e v2 ⟨rfl, hb⟩
          have A_2 : FX v2 w.heap.size (.int .i64 t) (.int .i64 x) := A_1.later hb
          have C_2 : FX v2 (w.heap.size + 1) (.int .i64 u) (.int .i64 y) := C_1.later hb
          have Y_2 : FX v2 g1 (.int .i64 T) (.int .i64 R) := Y_1.later hb
          have B_2 : Below w.heap.size w v2 := B_1.trans (hb.mono B_1.size)
          have hz2 : w1.heap.size ≤ v2.heap.size := Nat.le_trans hz1 hb.size
          refine hK.out _ _ ?_ (fun hHeld => ?_)
          · exact ⟨⟨A_2.2.1, A_2.2.2.1⟩, C_2.2.1, C_2.2.2.1⟩
          clear hK K hb A_1 C_1 Y_1 B_1
          try simp only [Act.put, List.setIfInBounds_toArray, List.set_cons_zero, List.set_cons_succ]
          refine wpAnyH_ready (rs := [4, 8]) (by kernel_rfl) (by simp) ?_
          refine AllReadyH.cons (o := _) rfl (fun K hK => ?cj18) (AllReadyH.cons (o := _) rfl (fun K hK => ?cj19) AllReadyH.nil)
          case' cj18 =>
            go_simp
            refine (QI.out _ B_2).mono ?_
            rintro e v3 ⟨rfl, hb⟩
            have A_3 : FX v3 w.heap.size (.int .i64 t) (.int .i64 x) := A_2.later hb
            have C_3 : FX v3 (w.heap.size + 1) (.int .i64 u) (.int .i64 y) := C_2.later hb
            have Y_3 : FX v3 g1 (.int .i64 T) (.int .i64 R) := Y_2.later hb
            have B_3 : Below w.heap.size w v3 := B_2.trans (hb.mono B_2.size)
            have hz3 : w1.heap.size ≤ v3.heap.size := Nat.le_trans hz2 hb.size
            refine hK.out _ _ ?_ (fun hHeld => ?_)
            · exact ⟨⟨A_3.2.1, A_3.2.2.1⟩, C_3.2.1, C_3.2.2.1⟩
            clear hK K hb A_2 C_2 Y_2 B_2
            try simp only [Act.put, List.setIfInBounds_toArray, List.set_cons_zero, List.set_cons_succ]
            refine takeJE16 (i := 5) (oi := _) (v := ?_) (d := some 17) rfl (by kernel_rfl) (by kernel_rfl) (by kernel_rfl) (by kernel_rfl) (fun _ _ _ h => h) (Or.inl ⟨by rfl, ?_⟩) (by assumption) ?_
            rotate_left
            · (intro w hSw; (try dsimp only at hSw); go_simp <;> with_reducible rfl)
            try simp only [Act.put, List.setIfInBounds_toArray, List.set_cons_zero, List.set_cons_succ]
            refine takeJE16 (i := 6) (oi := _) (v := ?_) (d := some 23) rfl (by kernel_rfl) (by kernel_rfl) (by kernel_rfl) (by kernel_rfl) (fun _ _ _ h => h) (Or.inl ⟨by rfl, ?_⟩) (by assumption) ?_
            rotate_left
            · (intro w hSw; (try dsimp only at hSw); go_simp <;> with_reducible rfl)
            try simp only [Act.put, List.setIfInBounds_toArray, List.set_cons_zero, List.set_cons_succ]
            refine takeJE16 (i := 7) (oi := _) (v := ?_) (d := some 24) rfl (by kernel_rfl) (by kernel_rfl) (by kernel_rfl) (by kernel_rfl) (fun _ _ _ h => h) (Or.inl ⟨by rfl, ?_⟩) (by assumption) ?_
            rotate_left
            · (intro w hSw; (try dsimp only at hSw); go_simp <;> with_reducible rfl)
            try simp only [Act.put, List.setIfInBounds_toArray, List.set_cons_zero, List.set_cons_succ]
            refine wpAnyH_ready (rs := [8]) (by kernel_rfl) (by simp) ?_
            refine AllReadyH.cons (o := _) rfl (fun K hK => ?cj20) AllReadyH.nil
            case' cj20 =>
              go_simp
              obtain ⟨v4, hV⟩ : ∃ X, v3.alloc (.cells #[.int .i64 0, .int .i64 0] 26) = X := ⟨_, rfl⟩
              have hb : Below v3.heap.size v3 v4 := by rw [← hV]; exact balloc _ _
              have A_4 : FX v4 w.heap.size (.int .i64 t) (.int .i64 x) := A_3.later hb
              have C_4 : FX v4 (w.heap.size + 1) (.int .i64 u) (.int .i64 y) := C_3.later hb
              have Y_4 : FX v4 g1 (.int .i64 T) (.int .i64 R) := Y_3.later hb
              have G_4 : FX v4 v3.heap.size (.int .i64 0) (.int .i64 0) := by rw [← hV]; exact fx_new v3 _ _ _
              have B_4 : Below w.heap.size w v4 := B_3.trans (hb.mono B_3.size)
              have hz4 : w1.heap.size ≤ v4.heap.size := Nat.le_trans hz3 hb.size
              try rw [hV]
              refine hK.out _ _ ?_ (fun hHeld => ?_)
              · exact ⟨⟨A_4.2.1, A_4.2.2.1⟩, C_4.2.1, C_4.2.2.1⟩
              clear hK K hV hb A_3 C_3 Y_3 B_3
              try simp only [Act.put, List.setIfInBounds_toArray, List.set_cons_zero, List.set_cons_succ]
              obtain ⟨_, c0, c1, f0, f1⟩ := id G_4
              obtain ⟨V, hV⟩ : ∃ X, (v4.setCell ⟨v3.heap.size, 0, none⟩ (.int .i64 T)).setCell ⟨v3.heap.size, 1, none⟩ (.int .i64 R) = X := ⟨_, rfl⟩
              have G_v : FX V v3.heap.size (.int .i64 T) (.int .i64 R) := by rw [← hV]; exact G_4.set _ _
              have A_v : FX V w.heap.size (.int .i64 t) (.int .i64 x) := by rw [← hV]; exact A_4.other (by have := A_b.1; omega) _ _
              have C_v : FX V (w.heap.size + 1) (.int .i64 u) (.int .i64 y) := by rw [← hV]; exact C_4.other (by have := C_b.1; omega) _ _
              have Y_v : FX V g1 (.int .i64 T) (.int .i64 R) := by rw [← hV]; exact Y_4.other (by have := Y_b.1; omega) _ _
              have B_v : Below w.heap.size w V := by rw [← hV]; exact (B_4.setCell (p := ⟨v3.heap.size, 0, none⟩) (by show w.heap.size ≤ v3.heap.size; have := A_b.1; omega) _).setCell (p := ⟨v3.heap.size, 1, none⟩) (by show w.heap.size ≤ v3.heap.size; have := A_b.1; omega) _
              refine wpAnyH_ready (rs := [9]) (by kernel_rfl) (by simp) ?_
              refine AllReadyH.cons (o := _) rfl (fun K hK => ?_) AllReadyH.nil
              go_simp
              refine hK.out _ _ ?_ (fun hHeld => ?_)
              · rw [← hV]; rw [hV]; exact ⟨⟨A_v.2.1, A_v.2.2.1⟩, C_v.2.1, C_v.2.2.1⟩
              clear hK K
              try simp only [Act.put, List.setIfInBounds_toArray, List.set_cons_zero, List.set_cons_succ]
              refine takeJE16 (i := 10) (oi := _) (v := ?_) (d := some 8) rfl (by kernel_rfl) (by kernel_rfl) (by kernel_rfl) (by kernel_rfl) (fun _ _ _ h => h) (Or.inl ⟨by rfl, ?_⟩) (by assumption) ?_
              rotate_left
              · (intro w hSw; (try dsimp only at hSw); go_simp <;> with_reducible rfl)
              try simp only [Act.put, List.setIfInBounds_toArray, List.set_cons_zero, List.set_cons_succ]
              refine wpAnyH_done (by kernel_rfl) ?_ _
              try rw [hV]
              clear hV hHeld c0 c1 f0 f1
              go_wp2_with fail
              go_meet
              exact ⟨v3.heap.size, rfl, rfl, G_v, A_v, C_v, Y_v, B_v⟩
          case' cj19 =>
            go_simp
            obtain ⟨v3, hV⟩ : ∃ X, v2.alloc (.cells #[.int .i64 0, .int .i64 0] 26) = X := ⟨_, rfl⟩
            have hb : Below v2.heap.size v2 v3 := by rw [← hV]; exact balloc _ _
            have A_3 : FX v3 w.heap.size (.int .i64 t) (.int .i64 x) := A_2.later hb
            have C_3 : FX v3 (w.heap.size + 1) (.int .i64 u) (.int .i64 y) := C_2.later hb
            have Y_3 : FX v3 g1 (.int .i64 T) (.int .i64 R) := Y_2.later hb
            have G_3 : FX v3 v2.heap.size (.int .i64 0) (.int .i64 0) := by rw [← hV]; exact fx_new v2 _ _ _
            have B_3 : Below w.heap.size w v3 := B_2.trans (hb.mono B_2.size)
            have hz3 : w1.heap.size ≤ v3.heap.size := Nat.le_trans hz2 hb.size
            try rw [hV]
            refine hK.out _ _ ?_ (fun hHeld => ?_)
            · exact ⟨⟨A_3.2.1, A_3.2.2.1⟩, C_3.2.1, C_3.2.2.1⟩
            clear hK K hV hb A_2 C_2 Y_2 B_2
            try simp only [Act.put, List.setIfInBounds_toArray, List.set_cons_zero, List.set_cons_succ]
            refine wpAnyH_ready (rs := [4]) (by kernel_rfl) (by simp) ?_
            refine AllReadyH.cons (o := _) rfl (fun K hK => ?cj21) AllReadyH.nil
            case' cj21 =>
              go_simp
              refine (QI.out _ B_3).mono ?_
              rintro e v4 ⟨rfl, hb⟩
              have A_4 : FX v4 w.heap.size (.int .i64 t) (.int .i64 x) := A_3.later hb
              have C_4 : FX v4 (w.heap.size + 1) (.int .i64 u) (.int .i64 y) := C_3.later hb
              have Y_4 : FX v4 g1 (.int .i64 T) (.int .i64 R) := Y_3.later hb
              have G_4 : FX v4 v2.heap.size (.int .i64 0) (.int .i64 0) := G_3.later hb
              have B_4 : Below w.heap.size w v4 := B_3.trans (hb.mono B_3.size)
              have hz4 : w1.heap.size ≤ v4.heap.size := Nat.le_trans hz3 hb.size
              refine hK.out _ _ ?_ (fun hHeld => ?_)
              · exact ⟨⟨A_4.2.1, A_4.2.2.1⟩, C_4.2.1, C_4.2.2.1⟩
              clear hK K hb A_3 C_3 Y_3 G_3 B_3
              try simp only [Act.put, List.setIfInBounds_toArray, List.set_cons_zero, List.set_cons_succ]
              refine takeJE16 (i := 5) (oi := _) (v := ?_) (d := some 17) rfl (by kernel_rfl) (by kernel_rfl) (by kernel_rfl) (by kernel_rfl) (fun _ _ _ h => h) (Or.inl ⟨by rfl, ?_⟩) (by assumption) ?_
              rotate_left
              · (intro w hSw; (try dsimp only at hSw); go_simp <;> with_reducible rfl)
              try simp only [Act.put, List.setIfInBounds_toArray, List.set_cons_zero, List.set_cons_succ]
              refine takeJE16 (i := 6) (oi := _) (v := ?_) (d := some 23) rfl (by kernel_rfl) (by kernel_rfl) (by kernel_rfl) (by kernel_rfl) (fun _ _ _ h => h) (Or.inl ⟨by rfl, ?_⟩) (by assumption) ?_
              rotate_left
              · (intro w hSw; (try dsimp only at hSw); go_simp <;> with_reducible rfl)
              try simp only [Act.put, List.setIfInBounds_toArray, List.set_cons_zero, List.set_cons_succ]
              refine takeJE16 (i := 7) (oi := _) (v := ?_) (d := some 24) rfl (by kernel_rfl) (by kernel_rfl) (by kernel_rfl) (by kernel_rfl) (fun _ _ _ h => h) (Or.inl ⟨by rfl, ?_⟩) (by assumption) ?_
              rotate_left
              · (intro w hSw; (try dsimp only at hSw); go_simp <;> with_reducible rfl)
              try simp only [Act.put, List.setIfInBounds_toArray, List.set_cons_zero, List.set_cons_succ]
              obtain ⟨_, c0, c1, f0, f1⟩ := id G_4
              obtain ⟨V, hV⟩ : ∃ X, (v4.setCell ⟨v2.heap.size, 0, none⟩ (.int .i64 T)).setCell ⟨v2.heap.size, 1, none⟩ (.int .i64 R) = X := ⟨_, rfl⟩
              have G_v : FX V v2.heap.size (.int .i64 T) (.int .i64 R) := by rw [← hV]; exact G_4.set _ _
              have A_v : FX V w.heap.size (.int .i64 t) (.int .i64 x) := by rw [← hV]; exact A_4.other (by have := A_b.1; omega) _ _
              have C_v : FX V (w.heap.size + 1) (.int .i64 u) (.int .i64 y) := by rw [← hV]; exact C_4.other (by have := C_b.1; omega) _ _
              have Y_v : FX V g1 (.int .i64 T) (.int .i64 R) := by rw [← hV]; exact Y_4.other (by have := Y_b.1; omega) _ _
              have B_v : Below w.heap.size w V := by rw [← hV]; exact (B_4.setCell (p := ⟨v2.heap.size, 0, none⟩) (by show w.heap.size ≤ v2.heap.size; have := A_b.1; omega) _).setCell (p := ⟨v2.heap.size, 1, none⟩) (by show w.heap.size ≤ v2.heap.size; have := A_b.1; omega) _
              refine wpAnyH_ready (rs := [9]) (by kernel_rfl) (by simp) ?_
              refine AllReadyH.cons (o := _) rfl (fun K hK => ?_) AllReadyH.nil
              go_simp
              refine hK.out _ _ ?_ (fun hHeld => ?_)
              · rw [← hV]; rw [hV]; exact ⟨⟨A_v.2.1, A_v.2.2.1⟩, C_v.2.1, C_v.2.2.1⟩
              clear hK K
              try simp only [Act.put, List.setIfInBounds_toArray, List.set_cons_zero, List.set_cons_succ]
              refine takeJE16 (i := 10) (oi := _) (v := ?_) (d := some 8) rfl (by kernel_rfl) (by kernel_rfl) (by kernel_rfl) (by kernel_rfl) (fun _ _ _ h => h) (Or.inl ⟨by rfl, ?_⟩) (by assumption) ?_
              rotate_left
              · (intro w hSw; (try dsimp only at hSw); go_simp <;> with_reducible rfl)
              try simp only [Act.put, List.setIfInBounds_toArray, List.set_cons_zero, List.set_cons_succ]
              refine wpAnyH_done (by kernel_rfl) ?_ _
              try rw [hV]
              clear hV hHeld c0 c1 f0 f1
              go_wp2_with fail
              go_meet
              exact ⟨v2.heap.size, rfl, rfl, G_v, A_v, C_v, Y_v, B_v⟩
        case' cj17 =>
          go_simp
          obtain ⟨v2, hV⟩ : ∃ X, v1.alloc (.cells #[.int .i64 0, .int .i64 0] 26) = X := ⟨_, rfl⟩
          have hb : Below v1.heap.size v1 v2 := by rw [← hV]; exact balloc _ _
          have A_2 : FX v2 w.heap.size (.int .i64 t) (.int .i64 x) := A_1.later hb
          have C_2 : FX v2 (w.heap.size + 1) (.int .i64 u) (.int .i64 y) := C_1.later hb
          have Y_2 : FX v2 g1 (.int .i64 T) (.int .i64 R) := Y_1.later hb
          have G_2 : FX v2 v1.heap.size (.int .i64 0) (.int .i64 0) := by rw [← hV]; exact fx_new v1 _ _ _
          have B_2 : Below w.heap.size w v2 := B_1.trans (hb.mono B_1.size)
          have hz2 : w1.heap.size ≤ v2.heap.size := Nat.le_trans hz1 hb.size
          try rw [hV]
          refine hK.out _ _ ?_ (fun hHeld => ?_)
          · exact ⟨⟨A_2.2.1, A_2.2.2.1⟩, C_2.2.1, C_2.2.2.1⟩
          clear hK K hV hb A_1 C_1 Y_1 B_1
          try simp only [Act.put, List.setIfInBounds_toArray, List.set_cons_zero, List.set_cons_succ]
          refine wpAnyH_ready (rs := [3]) (by kernel_rfl) (by simp) ?_
          refine AllReadyH.cons (o := _) rfl (fun K hK => ?cj22) AllReadyH.nil
          case' cj22 =>
            go_simp
            refine (QT2.out _).mono ?_
            rintro e v3 ⟨rfl, hb⟩
            have A_3 : FX v3 w.heap.size (.int .i64 t) (.int .i64 x) := A_2.later hb
            have C_3 : FX v3 (w.heap.size + 1) (.int .i64 u) (.int .i64 y) := C_2.later hb
            have Y_3 : FX v3 g1 (.int .i64 T) (.int .i64 R) := Y_2.later hb
            have G_3 : FX v3 v1.heap.size (.int .i64 0) (.int .i64 0) := G_2.later hb
            have B_3 : Below w.heap.size w v3 := B_2.trans (hb.mono B_2.size)
            have hz3 : w1.heap.size ≤ v3.heap.size := Nat.le_trans hz2 hb.size
            refine hK.out _ _ ?_ (fun hHeld => ?_)
            · exact ⟨⟨A_3.2.1, A_3.2.2.1⟩, C_3.2.1, C_3.2.2.1⟩
            clear hK K hb A_2 C_2 Y_2 G_2 B_2
            try simp only [Act.put, List.setIfInBounds_toArray, List.set_cons_zero, List.set_cons_succ]
            refine wpAnyH_ready (rs := [4]) (by kernel_rfl) (by simp) ?_
            refine AllReadyH.cons (o := _) rfl (fun K hK => ?cj23) AllReadyH.nil
            case' cj23 =>
              go_simp
              refine (QI.out _ B_3).mono ?_
              rintro e v4 ⟨rfl, hb⟩
              have A_4 : FX v4 w.heap.size (.int .i64 t) (.int .i64 x) := A_3.later hb
              have C_4 : FX v4 (w.heap.size + 1) (.int .i64 u) (.int .i64 y) := C_3.later hb
              have Y_4 : FX v4 g1 (.int .i64 T) (.int .i64 R) := Y_3.later hb
              have G_4 : FX v4 v1.heap.size (.int .i64 0) (.int .i64 0) := G_3.later hb
              have B_4 : Below w.heap.size w v4 := B_3.trans (hb.mono B_3.size)
              have hz4 : w1.heap.size ≤ v4.heap.size := Nat.le_trans hz3 hb.size
              refine hK.out _ _ ?_ (fun hHeld => ?_)
              · exact ⟨⟨A_4.2.1, A_4.2.2.1⟩, C_4.2.1, C_4.2.2.1⟩
              clear hK K hb A_3 C_3 Y_3 G_3 B_3
              try simp only [Act.put, List.setIfInBounds_toArray, List.set_cons_zero, List.set_cons_succ]
              refine takeJE16 (i := 5) (oi := _) (v := ?_) (d := some 17) rfl (by kernel_rfl) (by kernel_rfl) (by kernel_rfl) (by kernel_rfl) (fun _ _ _ h => h) (Or.inl ⟨by rfl, ?_⟩) (by assumption) ?_
              rotate_left
              · (intro w hSw; (try dsimp only at hSw); go_simp <;> with_reducible rfl)
              try simp only [Act.put, List.setIfInBounds_toArray, List.set_cons_zero, List.set_cons_succ]
              refine takeJE16 (i := 6) (oi := _) (v := ?_) (d := some 23) rfl (by kernel_rfl) (by kernel_rfl) (by kernel_rfl) (by kernel_rfl) (fun _ _ _ h => h) (Or.inl ⟨by rfl, ?_⟩) (by assumption) ?_
              rotate_left
              · (intro w hSw; (try dsimp only at hSw); go_simp <;> with_reducible rfl)
              try simp only [Act.put, List.setIfInBounds_toArray, List.set_cons_zero, List.set_cons_succ]
              refine takeJE16 (i := 7) (oi := _) (v := ?_) (d := some 24) rfl (by kernel_rfl) (by kernel_rfl) (by kernel_rfl) (by kernel_rfl) (fun _ _ _ h => h) (Or.inl ⟨by rfl, ?_⟩) (by assumption) ?_
              rotate_left
              · (intro w hSw; (try dsimp only at hSw); go_simp <;> with_reducible rfl)
              try simp only [Act.put, List.setIfInBounds_toArray, List.set_cons_zero, List.set_cons_succ]
              obtain ⟨_, c0, c1, f0, f1⟩ := id G_4
              obtain ⟨V, hV⟩ : ∃ X, (v4.setCell ⟨v1.heap.size, 0, none⟩ (.int .i64 T)).setCell ⟨v1.heap.size, 1, none⟩ (.int .i64 R) = X := ⟨_, rfl⟩
              have G_v : FX V v1.heap.size (.int .i64 T) (.int .i64 R) := by rw [← hV]; exact G_4.set _ _
              have A_v : FX V w.heap.size (.int .i64 t) (.int .i64 x) := by rw [← hV]; exact A_4.other (by have := A_b.1; omega) _ _
              have C_v : FX V (w.heap.size + 1) (.int .i64 u) (.int .i64 y) := by rw [← hV]; exact C_4.other (by have := C_b.1; omega) _ _
              have Y_v : FX V g1 (.int .i64 T) (.int .i64 R) := by rw [← hV]; exact Y_4.other (by have := Y_b.1; omega) _ _
              have B_v : Below w.heap.size w V := by rw [← hV]; exact (B_4.setCell (p := ⟨v1.heap.size, 0, none⟩) (by show w.heap.size ≤ v1.heap.size; have := A_b.1; omega) _).setCell (p := ⟨v1.heap.size, 1, none⟩) (by show w.heap.size ≤ v1.heap.size; have := A_b.1; omega) _
              refine wpAnyH_ready (rs := [9]) (by kernel_rfl) (by simp) ?_
              refine AllReadyH.cons (o := _) rfl (fun K hK => ?_) AllReadyH.nil
              go_simp
              refine hK.out _ _ ?_ (fun hHeld => ?_)
              · rw [← hV]; rw [hV]; exact ⟨⟨A_v.2.1, A_v.2.2.1⟩, C_v.2.1, C_v.2.2.1⟩
              clear hK K
              try simp only [Act.put, List.setIfInBounds_toArray, List.set_cons_zero, List.set_cons_succ]
              refine takeJE16 (i := 10) (oi := _) (v := ?_) (d := some 8) rfl (by kernel_rfl) (by kernel_rfl) (by kernel_rfl) (by kernel_rfl) (fun _ _ _ h => h) (Or.inl ⟨by rfl, ?_⟩) (by assumption) ?_
              rotate_left
              · (intro w hSw; (try dsimp only at hSw); go_simp <;> with_reducible rfl)
              try simp only [Act.put, List.setIfInBounds_toArray, List.set_cons_zero, List.set_cons_succ]
              refine wpAnyH_done (by kernel_rfl) ?_ _
              try rw [hV]
              clear hV hHeld c0 c1 f0 f1
              go_wp2_with fail
              go_meet
              exact ⟨v1.heap.size, rfl, rfl, G_v, A_v, C_v, Y_v, B_v⟩
      case' cj15 =>
        go_simp
        obtain ⟨v1, hV⟩ : ∃ X, v0.alloc (.cells #[.int .i64 0, .int .i64 0] 26) = X := ⟨_, rfl⟩
        have hb : Below v0.heap.size v0 v1 := by rw [← hV]; exact balloc _ _
        have A_1 : FX v1 w.heap.size (.int .i64 t) (.int .i64 x) := A_0.later hb
        have C_1 : FX v1 (w.heap.size + 1) (.int .i64 u) (.int .i64 y) := C_0.later hb
        have Y_1 : FX v1 g1 (.int .i64 T) (.int .i64 R) := Y_0.later hb
        have G_1 : FX v1 v0.heap.size (.int .i64 0) (.int .i64 0) := by rw [← hV]; exact fx_new v0 _ _ _
        have B_1 : Below w.heap.size w v1 := B_0.trans (hb.mono B_0.size)
        have hz1 : w1.heap.size ≤ v1.heap.size := Nat.le_trans hz0 hb.size
        try rw [hV]
        refine hK.out _ _ ?_ (fun hHeld => ?_)
        · exact ⟨⟨A_1.2.1, A_1.2.2.1⟩, C_1.2.1, C_1.2.2.1⟩
        clear hK K hV hb A_0 C_0 Y_0 B_0
        try simp only [Act.put, List.setIfInBounds_toArray, List.set_cons_zero, List.set_cons_succ]
        refine wpAnyH_ready (rs := [1]) (by kernel_rfl) (by simp) ?_
        refine AllReadyH.cons (o := _) rfl (fun K hK => ?cj24) AllReadyH.nil
        case' cj24 =>
          go_simp
          refine (QT1.out _).mono ?_
          rintro e v2 ⟨rfl, hb⟩
          have A_2 : FX v2 w.heap.size (.int .i64 t) (.int .i64 x) := A_1.later hb
          have C_2 : FX v2 (w.heap.size + 1) (.int .i64 u) (.int .i64 y) := C_1.later hb
          have Y_2 : FX v2 g1 (.int .i64 T) (.int .i64 R) := Y_1.later hb
          have G_2 : FX v2 v0.heap.size (.int .i64 0) (.int .i64 0) := G_1.later hb
          have B_2 : Below w.heap.size w v2 := B_1.trans (hb.mono B_1.size)
          have hz2 : w1.heap.size ≤ v2.heap.size := Nat.le_trans hz1 hb.size
          refine hK.out _ _ ?_ (fun hHeld => ?_)
          · exact ⟨⟨A_2.2.1, A_2.2.2.1⟩, C_2.2.1, C_2.2.2.1⟩
          clear hK K hb A_1 C_1 Y_1 G_1 B_1
          try simp only [Act.put, List.setIfInBounds_toArray, List.set_cons_zero, List.set_cons_succ]
          refine wpAnyH_ready (rs := [3]) (by kernel_rfl) (by simp) ?_
          refine AllReadyH.cons (o := _) rfl (fun K hK => ?cj25) AllReadyH.nil
          case' cj25 =>
            go_simp
            refine (QT2.out _).mono ?_
            rintro e v3 ⟨rfl, hb⟩
            have A_3 : FX v3 w.heap.size (.int .i64 t) (.int .i64 x) := A_2.later hb
            have C_3 : FX v3 (w.heap.size + 1) (.int .i64 u) (.int .i64 y) := C_2.later hb
            have Y_3 : FX v3 g1 (.int .i64 T) (.int .i64 R) := Y_2.later hb
            have G_3 : FX v3 v0.heap.size (.int .i64 0) (.int .i64 0) := G_2.later hb
            have B_3 : Below w.heap.size w v3 := B_2.trans (hb.mono B_2.size)
            have hz3 : w1.heap.size ≤ v3.heap.size := Nat.le_trans hz2 hb.size
            refine hK.out _ _ ?_ (fun hHeld => ?_)
            · exact ⟨⟨A_3.2.1, A_3.2.2.1⟩, C_3.2.1, C_3.2.2.1⟩
            clear hK K hb A_2 C_2 Y_2 G_2 B_2
            try simp only [Act.put, List.setIfInBounds_toArray, List.set_cons_zero, List.set_cons_succ]
            refine wpAnyH_ready (rs := [4]) (by kernel_rfl) (by simp) ?_
            refine AllReadyH.cons (o := _) rfl (fun K hK => ?cj26) AllReadyH.nil
            case' cj26 =>
              go_simp
              refine (QI.out _ B_3).mono ?_
              rintro e v4 ⟨rfl, hb⟩
              have A_4 : FX v4 w.heap.size (.int .i64 t) (.int .i64 x) := A_3.later hb
              have C_4 : FX v4 (w.heap.size + 1) (.int .i64 u) (.int .i64 y) := C_3.later hb
              have Y_4 : FX v4 g1 (.int .i64 T) (.int .i64 R) := Y_3.later hb
              have G_4 : FX v4 v0.heap.size (.int .i64 0) (.int .i64 0) := G_3.later hb
              have B_4 : Below w.heap.size w v4 := B_3.trans (hb.mono B_3.size)
              have hz4 : w1.heap.size ≤ v4.heap.size := Nat.le_trans hz3 hb.size
              refine hK.out _ _ ?_ (fun hHeld => ?_)
              · exact ⟨⟨A_4.2.1, A_4.2.2.1⟩, C_4.2.1, C_4.2.2.1⟩
              clear hK K hb A_3 C_3 Y_3 G_3 B_3
              try simp only [Act.put, List.setIfInBounds_toArray, List.set_cons_zero, List.set_cons_succ]
              refine takeJE16 (i := 5) (oi := _) (v := ?_) (d := some 17) rfl (by kernel_rfl) (by kernel_rfl) (by kernel_rfl) (by kernel_rfl) (fun _ _ _ h => h) (Or.inl ⟨by rfl, ?_⟩) (by assumption) ?_
              rotate_left
              · (intro w hSw; (try dsimp only at hSw); go_simp <;> with_reducible rfl)
              try simp only [Act.put, List.setIfInBounds_toArray, List.set_cons_zero, List.set_cons_succ]
              refine takeJE16 (i := 6) (oi := _) (v := ?_) (d := some 23) rfl (by kernel_rfl) (by kernel_rfl) (by kernel_rfl) (by kernel_rfl) (fun _ _ _ h => h) (Or.inl ⟨by rfl, ?_⟩) (by assumption) ?_
              rotate_left
              · (intro w hSw; (try dsimp only at hSw); go_simp <;> with_reducible rfl)
              try simp only [Act.put, List.setIfInBounds_toArray, List.set_cons_zero, List.set_cons_succ]
              refine takeJE16 (i := 7) (oi := _) (v := ?_) (d := some 24) rfl (by kernel_rfl) (by kernel_rfl) (by kernel_rfl) (by kernel_rfl) (fun _ _ _ h => h) (Or.inl ⟨by rfl, ?_⟩) (by assumption) ?_
              rotate_left
              · (intro w hSw; (try dsimp only at hSw); go_simp <;> with_reducible rfl)
              try simp only [Act.put, List.setIfInBounds_toArray, List.set_cons_zero, List.set_cons_succ]
              obtain ⟨_, c0, c1, f0, f1⟩ := id G_4
              obtain ⟨V, hV⟩ : ∃ X, (v4.setCell ⟨v0.heap.size, 0, none⟩ (.int .i64 T)).setCell ⟨v0.heap.size, 1, none⟩ (.int .i64 R) = X := ⟨_, rfl⟩
              have G_v : FX V v0.heap.size (.int .i64 T) (.int .i64 R) := by rw [← hV]; exact G_4.set _ _
              have A_v : FX V w.heap.size (.int .i64 t) (.int .i64 x) := by rw [← hV]; exact A_4.other (by have := A_b.1; omega) _ _
              have C_v : FX V (w.heap.size + 1) (.int .i64 u) (.int .i64 y) := by rw [← hV]; exact C_4.other (by have := C_b.1; omega) _ _
              have Y_v : FX V g1 (.int .i64 T) (.int .i64 R) := by rw [← hV]; exact Y_4.other (by have := Y_b.1; omega) _ _
              have B_v : Below w.heap.size w V := by rw [← hV]; exact (B_4.setCell (p := ⟨v0.heap.size, 0, none⟩) (by show w.heap.size ≤ v0.heap.size; have := A_b.1; omega) _).setCell (p := ⟨v0.heap.size, 1, none⟩) (by show w.heap.size ≤ v0.heap.size; have := A_b.1; omega) _
              refine wpAnyH_ready (rs := [9]) (by kernel_rfl) (by simp) ?_
              refine AllReadyH.cons (o := _) rfl (fun K hK => ?_) AllReadyH.nil
              go_simp
              refine hK.out _ _ ?_ (fun hHeld => ?_)
              · rw [← hV]; rw [hV]; exact ⟨⟨A_v.2.1, A_v.2.2.1⟩, C_v.2.1, C_v.2.2.1⟩
              clear hK K
              try simp only [Act.put, List.setIfInBounds_toArray, List.set_cons_zero, List.set_cons_succ]
              refine takeJE16 (i := 10) (oi := _) (v := ?_) (d := some 8) rfl (by kernel_rfl) (by kernel_rfl) (by kernel_rfl) (by kernel_rfl) (fun _ _ _ h => h) (Or.inl ⟨by rfl, ?_⟩) (by assumption) ?_
              rotate_left
              · (intro w hSw; (try dsimp only at hSw); go_simp <;> with_reducible rfl)
              try simp only [Act.put, List.setIfInBounds_toArray, List.set_cons_zero, List.set_cons_succ]
              refine wpAnyH_done (by kernel_rfl) ?_ _
              try rw [hV]
              clear hV hHeld c0 c1 f0 f1
              go_wp2_with fail
              go_meet
              exact ⟨v0.heap.size, rfl, rfl, G_v, A_v, C_v, Y_v, B_v⟩
    case rest =>
      obtain ⟨g2, rfl, rfl, Z_b, _, _, Y_c, B_c⟩ := hcut
      obtain ⟨w2, rfl⟩ : ∃ V : World, V = wc := ⟨_, rfl⟩
      obtain ⟨_, c0, c1, _, _⟩ := Z_b
      obtain ⟨_, d0, d1, _, _⟩ := Y_c
      go_wp2_with fail
      refine (QE.out _).mono ?_
      rintro e w3 ⟨rfl, hb⟩
      have B_d := B_c.trans (hb.mono B_c.size)
      clear hb c0 c1 d0 d1
      go_wp2
      go_ret
      exact ⟨rfl, B_d⟩

end Go.Proofs.YtjpegbodhpnflaaDoor
