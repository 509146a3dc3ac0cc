/- Chapter 15: what is drawn for the law of tables. -/
import Derived.Test.YtbjpkklonjlmiaaDT15B
import Derived.Deep.RegionHeld3
import Derived.Deep.DrawnRows
import Derived.Deep.Light
namespace Go.Proofs.Ytbjpkklonjlmiaa
set_option linter.unusedVariables false
set_option maxRecDepth 1000000
set_option linter.unusedSimpArgs false
open Go.RowKit

theorem drawn_below {w w1 w2 : World} {g : Nat} (h : Below w.heap.size w w1) (h2 : GB g w1 w2) (hg : w.heap.size ≤ g) : Below w.heap.size w w2 := h.trans (h2.below h.size hg)
theorem wrap_sm {x : Int} (h : -1000 ≤ x ∧ x ≤ 1000) : IntKind.i64.wrap x = x := by rw [IntKind.wrap_i64]; omega

set_option maxHeartbeats 4000000 in
theorem drawAll_c (ao : Option Addr) (n c : Nat) (w : World) (hn : n ≤ 9223372036854775807) (h : CodeOk w w.heap.size ao n) :
    Calls Try.prog 5 #[.slice ao n c] w fun e w' => ∃ (t : TbV) (sa : Option Addr) (sc : Nat) (la : Option Addr) (lc : Nat) (who word : Int), e = .returned (.tuple #[.agg #[.int .i64 t.s, .slice sa t.ps.length sc, .slice la t.cs.length lc], .int .i64 who, .int .i64 word]) ∧ (0 ≤ t.s ∧ t.s ≤ 7) ∧ RdT w' sa t.ps.length sc la t.cs.length lc t ∧ SmallTb t ∧ Below w.heap.size w w' := by
  have hsz : (w.alloc (.cells #[.int .i64 0, .slice none 0 0, .slice none 0 0] 26)).heap.size = w.heap.size + 1 := by simp
  have B0 : Below w.heap.size w (w.alloc (.cells #[.int .i64 0, .slice none 0 0, .slice none 0 0] 26)) := balloc w _
  have C0 := cur_new (w := (w.alloc (.cells #[.int .i64 0, .slice none 0 0, .slice none 0 0] 26))) (c := c) 53 hn (h.later B0 (by omega))
  rw [hsz] at C0
  have B1 : Below w.heap.size w ((w.alloc (.cells #[.int .i64 0, .slice none 0 0, .slice none 0 0] 26)).alloc (.cells #[.slice ao n c, .int .i64 0, .int .u64 0] 53)) := B0.alloc (by omega) _
  have hsz2 : ((w.alloc (.cells #[.int .i64 0, .slice none 0 0, .slice none 0 0] 26)).alloc (.cells #[.slice ao n c, .int .i64 0, .int .u64 0] 53)).heap.size = w.heap.size + 2 := by simp
  have R0 : X3 ((w.alloc (.cells #[.int .i64 0, .slice none 0 0, .slice none 0 0] 26)).alloc (.cells #[.slice ao n c, .int .i64 0, .int .u64 0] 53)) w.heap.size (.int .i64 0) (.slice none 0 0) (.slice none 0 0) := (x3_new w _ _ _ _ _ rfl).later (balloc _ _)
  clear h B0
  go_enter Try.func5, Try.ntmps5
  go_wp2_with fail
  refine (table_c (w.heap.size + 1) ao n c _ _ (by omega) C0).mono ?_
  rintro e w1 ⟨t, sa, sc, la, lc, rfl, hts, hsm, htb, hcu, hg⟩
  have HSM : Hid (SmallTb t) := hsm
  have R1 := x3_gb R0 hg (by omega)
  have B2 := drawn_below B1 hg (by omega)
  have hs1 : w.heap.size + 2 ≤ w1.heap.size := by have := hg.size; omega
  have T1 := htb.mono (lo' := w.heap.size + 2) (by omega) (Nat.le_refl _)
  clear R0 B1 C0 hg htb hsm hsz hsz2
  have X1 := x3_new w1 (.int .i64 t.s) (.slice sa t.ps.length sc) (.slice la t.cs.length lc) 26 w1.heap.size rfl
  have R2 := R1.later (balloc w1 (.cells #[.int .i64 t.s, .slice sa t.ps.length sc, .slice la t.cs.length lc] 26))
  have B3 : Below w.heap.size w (w1.alloc (.cells #[.int .i64 t.s, .slice sa t.ps.length sc, .slice la t.cs.length lc] 26)) := B2.alloc (by omega) _
  have C2 := hcu.alloc (.cells #[.int .i64 t.s, .slice sa t.ps.length sc, .slice la t.cs.length lc] 26)
  have T2 := T1.later (balloc w1 (.cells #[.int .i64 t.s, .slice sa t.ps.length sc, .slice la t.cs.length lc] 26))
  clear R1 B2 hcu T1
  obtain ⟨hs0, hs7⟩ := hts
  have hwr : IntKind.i64.wrap (t.s + 2) = t.s + 2 := wrap_sm (by omega)
  obtain ⟨W, hW⟩ : ∃ D, w1.alloc (.cells #[.int .i64 t.s, .slice sa t.ps.length sc, .slice la t.cs.length lc] 26) = D := ⟨_, rfl⟩
  rw [hW] at X1 R2 B3 C2 T2
  have hs2 : w1.heap.size + 1 ≤ W.heap.size := by rw [← hW]; simp
  go_wp2_with fail
  try rw [hW]
  clear hW
  refine wp_region_held_drew (S := (fun Z => Z.cell? ⟨w1.heap.size, 0, none⟩ = some (.int .i64 t.s) ∧ Z.cell? ⟨w1.heap.size, 1, none⟩ = some (.slice sa t.ps.length sc) ∧ Z.cell? ⟨w1.heap.size, 2, none⟩ = some (.slice la t.cs.length lc))) (by kernel_rfl) ?_ (fun hHeld => ?_)
  · exact X1.1
  obtain ⟨v0, hv0⟩ : ∃ D, W.drew = D := ⟨_, rfl⟩
  have hb0 : Below W.heap.size W v0 := by rw [← hv0]; exact (Below.refl _ _).drew
  have X2 := X1.later hb0
  have R3 := R2.later hb0
  have B4 := B3.trans (hb0.mono B3.size)
  have C3 := C2.later hb0
  have T3 := T2.later hb0
  have hs3 : w1.heap.size + 1 ≤ v0.heap.size := Nat.le_trans hs2 hb0.size
  rw [hv0] at hHeld ⊢
  clear hv0 hb0 X1 R2 B3 C2 T2
  refine takeDT15 (i := 0) (oi := _) (v := ?_) (d := some 12) rfl (by kernel_rfl) (by kernel_rfl) (by kernel_rfl) (by kernel_rfl) (fun _ _ _ h => h) (Or.inl ⟨by rfl, ?_⟩) (by assumption) ?_
  rotate_left
  · (intro w hSw; (try dsimp only at hSw); go_simp <;> with_reducible rfl)
  try simp only [Act.put, List.setIfInBounds_toArray, List.set_cons_zero, List.set_cons_succ]
  refine takeDT15 (i := 1) (oi := _) (v := ?_) (d := some 13) rfl (by kernel_rfl) (by kernel_rfl) (by kernel_rfl) (by kernel_rfl) (fun _ _ _ h => h) (Or.inl ⟨by rfl, ?_⟩) (by assumption) ?_
  rotate_left
  · (intro w hSw; (try dsimp only at hSw); go_simp <;> with_reducible rfl)
  try simp only [Act.put, List.setIfInBounds_toArray, List.set_cons_zero, List.set_cons_succ]
  refine takeDT15 (i := 2) (oi := _) (v := ?_) (d := some 14) rfl (by kernel_rfl) (by kernel_rfl) (by kernel_rfl) (by kernel_rfl) (fun _ _ _ h => h) (Or.inl ⟨by rfl, ?_⟩) (by assumption) ?_
  rotate_left
  · (intro w hSw; (try dsimp only at hSw); go_simp <;> with_reducible rfl)
  try simp only [Act.put, List.setIfInBounds_toArray, List.set_cons_zero, List.set_cons_succ]
  refine takeDT15 (i := 3) (oi := _) (v := ?_) (d := some 15) rfl (by kernel_rfl) (by kernel_rfl) (by kernel_rfl) (by kernel_rfl) (fun _ _ _ h => h) (Or.inl ⟨by rfl, ?_⟩) (by assumption) ?_
  rotate_left
  · (intro w hSw; (try dsimp only at hSw); go_simp <;> with_reducible rfl)
  try simp only [Act.put, List.setIfInBounds_toArray, List.set_cons_zero, List.set_cons_succ]
  refine takeDT15 (i := 4) (oi := _) (v := ?_) (d := some 16) rfl (by kernel_rfl) (by kernel_rfl) (by kernel_rfl) (by kernel_rfl) (fun _ _ _ h => h) (Or.inl ⟨by rfl, ?_⟩) (by assumption) ?_
  rotate_left
  · (intro w hSw; (try dsimp only at hSw); go_simp <;> with_reducible rfl)
  try simp only [Act.put, List.setIfInBounds_toArray, List.set_cons_zero, List.set_cons_succ]
  refine takeDT15 (i := 7) (oi := _) (v := ?_) (d := some 19) rfl (by kernel_rfl) (by kernel_rfl) (by kernel_rfl) (by kernel_rfl) (fun _ _ _ h => h) (Or.inl ⟨by rfl, ?_⟩) (by assumption) ?_
  rotate_left
  · (intro w hSw; (try dsimp only at hSw); go_simp <;> with_reducible rfl)
  try simp only [Act.put, List.setIfInBounds_toArray, List.set_cons_zero, List.set_cons_succ]
  have X_0 := X2
  have R_0 := R3
  have B_0 := B4
  have C_0 := C3
  have T_0 := T3
  clear X2 R3 B4 C3 T3
  refine wpAnyH_ready (rs := [5]) (by kernel_rfl) (by simp) ?_
  refine AllReadyH.cons (o := _) rfl (fun K hK => ?_) AllReadyH.nil
  go_simp
  refine (pick_c (w.heap.size + 1) ao n c _ _ v0 (by omega) (by omega) C_0).mono ?_
  rintro e v1 ⟨z0, rfl, hz0, hy0, hc, hg⟩
  have X_1 := x3_gb X_0 hg (by omega)
  have R_1 := x3_gb R_0 hg (by omega)
  have B_1 := drawn_below B_0 hg (by omega)
  have T_1 := T_0.gb hg (by omega)
  have C_1 := hc
  clear hc hg X_0 R_0 B_0 C_0 T_0
  refine hK.out _ _ ?_ (fun hHeld => ?_)
  · exact X_1.1
  clear hK K
  try simp only [Act.put, List.setIfInBounds_toArray, List.set_cons_zero, List.set_cons_succ]
  refine takeDT15 (i := 6) (oi := _) (v := ?_) (d := some 18) rfl (by kernel_rfl) (by kernel_rfl) (by kernel_rfl) (by kernel_rfl) (fun _ _ _ h => h) (Or.inl ⟨by rfl, ?_⟩) (by assumption) ?_
  rotate_left
  · (intro w hSw; (try dsimp only at hSw); go_simp <;> with_reducible rfl)
  try simp only [Act.put, List.setIfInBounds_toArray, List.set_cons_zero, List.set_cons_succ]
  refine wpAnyH_ready (rs := [8]) (by kernel_rfl) (by simp) ?_
  refine AllReadyH.cons (o := _) rfl (fun K hK => ?_) AllReadyH.nil
  go_simp
  refine (word15_c (w.heap.size + 1) ao n c _ v1 (by omega) C_1).mono ?_
  rintro e v2 ⟨z1, rfl, hz1, hc, hg⟩
  have X_2 := x3_gb X_1 hg (by omega)
  have R_2 := x3_gb R_1 hg (by omega)
  have B_2 := drawn_below B_1 hg (by omega)
  have T_2 := T_1.gb hg (by omega)
  have C_2 := hc
  clear hc hg X_1 R_1 B_1 C_1 T_1
  refine hK.out _ _ ?_ (fun hHeld => ?_)
  · exact X_2.1
  clear hK K
  try simp only [Act.put, List.setIfInBounds_toArray, List.set_cons_zero, List.set_cons_succ]
  have hb9 : Below w.heap.size v2 (((v2.setCell ⟨w.heap.size, 0, none⟩ (.int .i64 t.s)).setCell ⟨w.heap.size, 1, none⟩ (.slice sa t.ps.length sc)).setCell ⟨w.heap.size, 2, none⟩ (.slice la t.cs.length lc)) := ((below_set _ _ _ _).setCell (p := ⟨w.heap.size, 1, none⟩) (Nat.le_refl _) _).setCell (p := ⟨w.heap.size, 2, none⟩) (Nat.le_refl _) _
  have HB : Hid (Below w.heap.size w (((v2.setCell ⟨w.heap.size, 0, none⟩ (.int .i64 t.s)).setCell ⟨w.heap.size, 1, none⟩ (.slice sa t.ps.length sc)).setCell ⟨w.heap.size, 2, none⟩ (.slice la t.cs.length lc))) := B_2.trans hb9
  have HT : Hid (OwnTb (((v2.setCell ⟨w.heap.size, 0, none⟩ (.int .i64 t.s)).setCell ⟨w.heap.size, 1, none⟩ (.slice sa t.ps.length sc)).setCell ⟨w.heap.size, 2, none⟩ (.slice la t.cs.length lc)) (w.heap.size + 2) w1.heap.size (.slice sa t.ps.length sc) (.slice la t.cs.length lc) t) := ((T_2.set (by omega) _).set (by omega) _).set (by omega) _
  obtain ⟨⟨e0, e1, e2⟩, ez⟩ := id R_2
  obtain ⟨⟨d0, d1, d2⟩, dz⟩ := id (((R_2.set0 (.int .i64 t.s)).set1 (.slice sa t.ps.length sc)).set2 (.slice la t.cs.length lc))
  have X_s := ((X_2.other (r' := w.heap.size) (j' := 0) (u := .int .i64 t.s) (by omega)).other (r' := w.heap.size) (j' := 1) (u := .slice sa t.ps.length sc) (by omega)).other (r' := w.heap.size) (j' := 2) (u := .slice la t.cs.length lc) (by omega)
  clear dz hb9 B_2 T_2 C_2
  refine wpAnyH_ready (rs := [9]) (by kernel_rfl) (by simp) ?_
  refine AllReadyH.cons (o := _) rfl (fun K hK => ?_) AllReadyH.nil
  go_simp
  refine hK.out _ _ ?_ (fun hHeld => ?_)
  · exact X_s.1
  clear hK K
  try simp only [Act.put, List.setIfInBounds_toArray, List.set_cons_zero, List.set_cons_succ]
  refine takeDT15 (i := 10) (oi := _) (v := ?_) (d := some 3) rfl (by kernel_rfl) (by kernel_rfl) (by kernel_rfl) (by kernel_rfl) (fun _ _ _ h => h) (Or.inl ⟨by rfl, ?_⟩) (by assumption) ?_
  rotate_left
  · (intro w hSw; (try dsimp only at hSw); go_simp <;> with_reducible rfl)
  try simp only [Act.put, List.setIfInBounds_toArray, List.set_cons_zero, List.set_cons_succ]
  refine takeDT15 (i := 11) (oi := _) (v := ?_) (d := some 4) rfl (by kernel_rfl) (by kernel_rfl) (by kernel_rfl) (by kernel_rfl) (fun _ _ _ h => h) (Or.inl ⟨by rfl, ?_⟩) (by assumption) ?_
  rotate_left
  · (intro w hSw; (try dsimp only at hSw); go_simp <;> with_reducible rfl)
  try simp only [Act.put, List.setIfInBounds_toArray, List.set_cons_zero, List.set_cons_succ]
  refine wpAnyH_done (by kernel_rfl) ?_ _
  clear hHeld
  go_wp2
  refine bodyPost_ret (v := .tuple #[.agg #[.int .i64 t.s, .slice sa t.ps.length sc, .slice la t.cs.length lc], .int .i64 (IntKind.i64.wrap (z0 - 1)), .int .i64 z1]) (by simp [results, Try.results5, go_sem, d0, d1, d2]; try rfl) rfl ?_
  exact ⟨t, sa, sc, la, lc, _, _, rfl, ⟨hs0, hs7⟩, rdT_of HSM.out HT.out.rd, HSM.out, HB.out⟩
  
set_option maxHeartbeats 4000000 in
theorem drawSayAt_c (ao : Option Addr) (n c : Nat) (w : World) (hn : n ≤ 9223372036854775807) (h : CodeOk w w.heap.size ao n) :
    Calls Try.prog 17 #[.slice ao n c] w fun e w' => ∃ (t : TbV) (sa : Option Addr) (sc : Nat) (la : Option Addr) (lc : Nat) (seat who word : Int), e = .returned (.tuple #[.agg #[.int .i64 t.s, .slice sa t.ps.length sc, .slice la t.cs.length lc], .int .i64 seat, .int .i64 who, .int .i64 word]) ∧ (0 ≤ t.s ∧ t.s ≤ 7) ∧ RdT w' sa t.ps.length sc la t.cs.length lc t ∧ SmallTb t ∧ Below w.heap.size w w' := by
  have hsz : (w.alloc (.cells #[.int .i64 0, .slice none 0 0, .slice none 0 0] 26)).heap.size = w.heap.size + 1 := by simp
  have B0 : Below w.heap.size w (w.alloc (.cells #[.int .i64 0, .slice none 0 0, .slice none 0 0] 26)) := balloc w _
  have C0 := cur_new (w := (w.alloc (.cells #[.int .i64 0, .slice none 0 0, .slice none 0 0] 26))) (c := c) 53 hn (h.later B0 (by omega))
  rw [hsz] at C0
  have B1 : Below w.heap.size w ((w.alloc (.cells #[.int .i64 0, .slice none 0 0, .slice none 0 0] 26)).alloc (.cells #[.slice ao n c, .int .i64 0, .int .u64 0] 53)) := B0.alloc (by omega) _
  have hsz2 : ((w.alloc (.cells #[.int .i64 0, .slice none 0 0, .slice none 0 0] 26)).alloc (.cells #[.slice ao n c, .int .i64 0, .int .u64 0] 53)).heap.size = w.heap.size + 2 := by simp
  have R0 : X3 ((w.alloc (.cells #[.int .i64 0, .slice none 0 0, .slice none 0 0] 26)).alloc (.cells #[.slice ao n c, .int .i64 0, .int .u64 0] 53)) w.heap.size (.int .i64 0) (.slice none 0 0) (.slice none 0 0) := (x3_new w _ _ _ _ _ rfl).later (balloc _ _)
  clear h B0
  go_enter Try.func17, Try.ntmps17
  go_wp2_with fail
  refine (table_c (w.heap.size + 1) ao n c _ _ (by omega) C0).mono ?_
  rintro e w1 ⟨t, sa, sc, la, lc, rfl, hts, hsm, htb, hcu, hg⟩
  have HSM : Hid (SmallTb t) := hsm
  have R1 := x3_gb R0 hg (by omega)
  have B2 := drawn_below B1 hg (by omega)
  have hs1 : w.heap.size + 2 ≤ w1.heap.size := by have := hg.size; omega
  have T1 := htb.mono (lo' := w.heap.size + 2) (by omega) (Nat.le_refl _)
  clear R0 B1 C0 hg htb hsm hsz hsz2
  have X1 := x3_new w1 (.int .i64 t.s) (.slice sa t.ps.length sc) (.slice la t.cs.length lc) 26 w1.heap.size rfl
  have R2 := R1.later (balloc w1 (.cells #[.int .i64 t.s, .slice sa t.ps.length sc, .slice la t.cs.length lc] 26))
  have B3 : Below w.heap.size w (w1.alloc (.cells #[.int .i64 t.s, .slice sa t.ps.length sc, .slice la t.cs.length lc] 26)) := B2.alloc (by omega) _
  have C2 := hcu.alloc (.cells #[.int .i64 t.s, .slice sa t.ps.length sc, .slice la t.cs.length lc] 26)
  have T2 := T1.later (balloc w1 (.cells #[.int .i64 t.s, .slice sa t.ps.length sc, .slice la t.cs.length lc] 26))
  clear R1 B2 hcu T1
  obtain ⟨hs0, hs7⟩ := hts
  have hwr : IntKind.i64.wrap (t.s + 2) = t.s + 2 := wrap_sm (by omega)
  obtain ⟨W, hW⟩ : ∃ D, w1.alloc (.cells #[.int .i64 t.s, .slice sa t.ps.length sc, .slice la t.cs.length lc] 26) = D := ⟨_, rfl⟩
  rw [hW] at X1 R2 B3 C2 T2
  have hs2 : w1.heap.size + 1 ≤ W.heap.size := by rw [← hW]; simp
  go_wp2_with fail
  try rw [hW]
  clear hW
  refine wp_region_held_drew (S := (fun Z => Z.cell? ⟨w1.heap.size, 0, none⟩ = some (.int .i64 t.s) ∧ Z.cell? ⟨w1.heap.size, 1, none⟩ = some (.slice sa t.ps.length sc) ∧ Z.cell? ⟨w1.heap.size, 2, none⟩ = some (.slice la t.cs.length lc))) (by kernel_rfl) ?_ (fun hHeld => ?_)
  · exact X1.1
  obtain ⟨v0, hv0⟩ : ∃ D, W.drew = D := ⟨_, rfl⟩
  have hb0 : Below W.heap.size W v0 := by rw [← hv0]; exact (Below.refl _ _).drew
  have X2 := X1.later hb0
  have R3 := R2.later hb0
  have B4 := B3.trans (hb0.mono B3.size)
  have C3 := C2.later hb0
  have T3 := T2.later hb0
  have hs3 : w1.heap.size + 1 ≤ v0.heap.size := Nat.le_trans hs2 hb0.size
  rw [hv0] at hHeld ⊢
  clear hv0 hb0 X1 R2 B3 C2 T2
  refine takeDT15 (i := 0) (oi := _) (v := ?_) (d := some 13) rfl (by kernel_rfl) (by kernel_rfl) (by kernel_rfl) (by kernel_rfl) (fun _ _ _ h => h) (Or.inl ⟨by rfl, ?_⟩) (by assumption) ?_
  rotate_left
  · (intro w hSw; (try dsimp only at hSw); go_simp <;> with_reducible rfl)
  try simp only [Act.put, List.setIfInBounds_toArray, List.set_cons_zero, List.set_cons_succ]
  refine takeDT15 (i := 1) (oi := _) (v := ?_) (d := some 14) rfl (by kernel_rfl) (by kernel_rfl) (by kernel_rfl) (by kernel_rfl) (fun _ _ _ h => h) (Or.inl ⟨by rfl, ?_⟩) (by assumption) ?_
  rotate_left
  · (intro w hSw; (try dsimp only at hSw); go_simp <;> with_reducible rfl)
  try simp only [Act.put, List.setIfInBounds_toArray, List.set_cons_zero, List.set_cons_succ]
  refine takeDT15 (i := 2) (oi := _) (v := ?_) (d := some 15) rfl (by kernel_rfl) (by kernel_rfl) (by kernel_rfl) (by kernel_rfl) (fun _ _ _ h => h) (Or.inl ⟨by rfl, ?_⟩) (by assumption) ?_
  rotate_left
  · (intro w hSw; (try dsimp only at hSw); go_simp <;> with_reducible rfl)
  try simp only [Act.put, List.setIfInBounds_toArray, List.set_cons_zero, List.set_cons_succ]
  refine takeDT15 (i := 3) (oi := _) (v := ?_) (d := some 16) rfl (by kernel_rfl) (by kernel_rfl) (by kernel_rfl) (by kernel_rfl) (fun _ _ _ h => h) (Or.inl ⟨by rfl, ?_⟩) (by assumption) ?_
  rotate_left
  · (intro w hSw; (try dsimp only at hSw); go_simp <;> with_reducible rfl)
  try simp only [Act.put, List.setIfInBounds_toArray, List.set_cons_zero, List.set_cons_succ]
  refine takeDT15 (i := 4) (oi := _) (v := ?_) (d := some 17) rfl (by kernel_rfl) (by kernel_rfl) (by kernel_rfl) (by kernel_rfl) (fun _ _ _ h => h) (Or.inl ⟨by rfl, ?_⟩) (by assumption) ?_
  rotate_left
  · (intro w hSw; (try dsimp only at hSw); go_simp <;> with_reducible rfl)
  try simp only [Act.put, List.setIfInBounds_toArray, List.set_cons_zero, List.set_cons_succ]
  refine takeDT15 (i := 7) (oi := _) (v := ?_) (d := some 20) rfl (by kernel_rfl) (by kernel_rfl) (by kernel_rfl) (by kernel_rfl) (fun _ _ _ h => h) (Or.inl ⟨by rfl, ?_⟩) (by assumption) ?_
  rotate_left
  · (intro w hSw; (try dsimp only at hSw); go_simp <;> with_reducible rfl)
  try simp only [Act.put, List.setIfInBounds_toArray, List.set_cons_zero, List.set_cons_succ]
  refine takeDT15 (i := 8) (oi := _) (v := ?_) (d := some 21) rfl (by kernel_rfl) (by kernel_rfl) (by kernel_rfl) (by kernel_rfl) (fun _ _ _ h => h) (Or.inl ⟨by rfl, ?_⟩) (by assumption) ?_
  rotate_left
  · (intro w hSw; (try dsimp only at hSw); go_simp <;> with_reducible rfl)
  try simp only [Act.put, List.setIfInBounds_toArray, List.set_cons_zero, List.set_cons_succ]
  refine takeDT15 (i := 9) (oi := _) (v := ?_) (d := some 22) rfl (by kernel_rfl) (by kernel_rfl) (by kernel_rfl) (by kernel_rfl) (fun _ _ _ h => h) (Or.inl ⟨by rfl, ?_⟩) (by assumption) ?_
  rotate_left
  · (intro w hSw; (try dsimp only at hSw); go_simp <;> with_reducible rfl)
  try simp only [Act.put, List.setIfInBounds_toArray, List.set_cons_zero, List.set_cons_succ]
  refine takeDT15 (i := 10) (oi := _) (v := ?_) (d := some 23) rfl (by kernel_rfl) (by kernel_rfl) (by kernel_rfl) (by kernel_rfl) (fun _ _ _ h => h) (Or.inl ⟨by rfl, ?_⟩) (by assumption) ?_
  rotate_left
  · (intro w hSw; (try dsimp only at hSw); go_simp <;> with_reducible rfl)
  try simp only [Act.put, List.setIfInBounds_toArray, List.set_cons_zero, List.set_cons_succ]
  refine takeDT15 (i := 13) (oi := _) (v := ?_) (d := some 26) rfl (by kernel_rfl) (by kernel_rfl) (by kernel_rfl) (by kernel_rfl) (fun _ _ _ h => h) (Or.inl ⟨by rfl, ?_⟩) (by assumption) ?_
  rotate_left
  · (intro w hSw; (try dsimp only at hSw); go_simp <;> with_reducible rfl)
  try simp only [Act.put, List.setIfInBounds_toArray, List.set_cons_zero, List.set_cons_succ]
  have X_0 := X2
  have R_0 := R3
  have B_0 := B4
  have C_0 := C3
  have T_0 := T3
  clear X2 R3 B4 C3 T3
  refine wpAnyH_ready (rs := [5]) (by kernel_rfl) (by simp) ?_
  refine AllReadyH.cons (o := _) rfl (fun K hK => ?_) AllReadyH.nil
  go_simp
  refine (pick_c (w.heap.size + 1) ao n c _ _ v0 (by omega) (by omega) C_0).mono ?_
  rintro e v1 ⟨z0, rfl, hz0, hy0, hc, hg⟩
  have X_1 := x3_gb X_0 hg (by omega)
  have R_1 := x3_gb R_0 hg (by omega)
  have B_1 := drawn_below B_0 hg (by omega)
  have T_1 := T_0.gb hg (by omega)
  have C_1 := hc
  clear hc hg X_0 R_0 B_0 C_0 T_0
  refine hK.out _ _ ?_ (fun hHeld => ?_)
  · exact X_1.1
  clear hK K
  try simp only [Act.put, List.setIfInBounds_toArray, List.set_cons_zero, List.set_cons_succ]
  refine takeDT15 (i := 6) (oi := _) (v := ?_) (d := some 19) rfl (by kernel_rfl) (by kernel_rfl) (by kernel_rfl) (by kernel_rfl) (fun _ _ _ h => h) (Or.inl ⟨by rfl, ?_⟩) (by assumption) ?_
  rotate_left
  · (intro w hSw; (try dsimp only at hSw); go_simp <;> with_reducible rfl)
  try simp only [Act.put, List.setIfInBounds_toArray, List.set_cons_zero, List.set_cons_succ]
  refine wpAnyH_ready (rs := [11]) (by kernel_rfl) (by simp) ?_
  refine AllReadyH.cons (o := _) rfl (fun K hK => ?_) AllReadyH.nil
  go_simp
  refine (pick_c (w.heap.size + 1) ao n c _ _ v1 (by omega) (by omega) C_1).mono ?_
  rintro e v2 ⟨z1, rfl, hz1, hy1, hc, hg⟩
  have X_2 := x3_gb X_1 hg (by omega)
  have R_2 := x3_gb R_1 hg (by omega)
  have B_2 := drawn_below B_1 hg (by omega)
  have T_2 := T_1.gb hg (by omega)
  have C_2 := hc
  clear hc hg X_1 R_1 B_1 C_1 T_1
  refine hK.out _ _ ?_ (fun hHeld => ?_)
  · exact X_2.1
  clear hK K
  try simp only [Act.put, List.setIfInBounds_toArray, List.set_cons_zero, List.set_cons_succ]
  refine takeDT15 (i := 12) (oi := _) (v := ?_) (d := some 25) rfl (by kernel_rfl) (by kernel_rfl) (by kernel_rfl) (by kernel_rfl) (fun _ _ _ h => h) (Or.inl ⟨by rfl, ?_⟩) (by assumption) ?_
  rotate_left
  · (intro w hSw; (try dsimp only at hSw); go_simp <;> with_reducible rfl)
  try simp only [Act.put, List.setIfInBounds_toArray, List.set_cons_zero, List.set_cons_succ]
  refine wpAnyH_ready (rs := [14]) (by kernel_rfl) (by simp) ?_
  refine AllReadyH.cons (o := _) rfl (fun K hK => ?_) AllReadyH.nil
  go_simp
  refine (word15_c (w.heap.size + 1) ao n c _ v2 (by omega) C_2).mono ?_
  rintro e v3 ⟨z2, rfl, hz2, hc, hg⟩
  have X_3 := x3_gb X_2 hg (by omega)
  have R_3 := x3_gb R_2 hg (by omega)
  have B_3 := drawn_below B_2 hg (by omega)
  have T_3 := T_2.gb hg (by omega)
  have C_3 := hc
  clear hc hg X_2 R_2 B_2 C_2 T_2
  refine hK.out _ _ ?_ (fun hHeld => ?_)
  · exact X_3.1
  clear hK K
  try simp only [Act.put, List.setIfInBounds_toArray, List.set_cons_zero, List.set_cons_succ]
  have hb9 : Below w.heap.size v3 (((v3.setCell ⟨w.heap.size, 0, none⟩ (.int .i64 t.s)).setCell ⟨w.heap.size, 1, none⟩ (.slice sa t.ps.length sc)).setCell ⟨w.heap.size, 2, none⟩ (.slice la t.cs.length lc)) := ((below_set _ _ _ _).setCell (p := ⟨w.heap.size, 1, none⟩) (Nat.le_refl _) _).setCell (p := ⟨w.heap.size, 2, none⟩) (Nat.le_refl _) _
  have HB : Hid (Below w.heap.size w (((v3.setCell ⟨w.heap.size, 0, none⟩ (.int .i64 t.s)).setCell ⟨w.heap.size, 1, none⟩ (.slice sa t.ps.length sc)).setCell ⟨w.heap.size, 2, none⟩ (.slice la t.cs.length lc))) := B_3.trans hb9
  have HT : Hid (OwnTb (((v3.setCell ⟨w.heap.size, 0, none⟩ (.int .i64 t.s)).setCell ⟨w.heap.size, 1, none⟩ (.slice sa t.ps.length sc)).setCell ⟨w.heap.size, 2, none⟩ (.slice la t.cs.length lc)) (w.heap.size + 2) w1.heap.size (.slice sa t.ps.length sc) (.slice la t.cs.length lc) t) := ((T_3.set (by omega) _).set (by omega) _).set (by omega) _
  obtain ⟨⟨e0, e1, e2⟩, ez⟩ := id R_3
  obtain ⟨⟨d0, d1, d2⟩, dz⟩ := id (((R_3.set0 (.int .i64 t.s)).set1 (.slice sa t.ps.length sc)).set2 (.slice la t.cs.length lc))
  have X_s := ((X_3.other (r' := w.heap.size) (j' := 0) (u := .int .i64 t.s) (by omega)).other (r' := w.heap.size) (j' := 1) (u := .slice sa t.ps.length sc) (by omega)).other (r' := w.heap.size) (j' := 2) (u := .slice la t.cs.length lc) (by omega)
  clear dz hb9 B_3 T_3 C_3
  refine wpAnyH_ready (rs := [15]) (by kernel_rfl) (by simp) ?_
  refine AllReadyH.cons (o := _) rfl (fun K hK => ?_) AllReadyH.nil
  go_simp
  refine hK.out _ _ ?_ (fun hHeld => ?_)
  · exact X_s.1
  clear hK K
  try simp only [Act.put, List.setIfInBounds_toArray, List.set_cons_zero, List.set_cons_succ]
  refine takeDT15 (i := 16) (oi := _) (v := ?_) (d := some 3) rfl (by kernel_rfl) (by kernel_rfl) (by kernel_rfl) (by kernel_rfl) (fun _ _ _ h => h) (Or.inl ⟨by rfl, ?_⟩) (by assumption) ?_
  rotate_left
  · (intro w hSw; (try dsimp only at hSw); go_simp <;> with_reducible rfl)
  try simp only [Act.put, List.setIfInBounds_toArray, List.set_cons_zero, List.set_cons_succ]
  refine takeDT15 (i := 17) (oi := _) (v := ?_) (d := some 4) rfl (by kernel_rfl) (by kernel_rfl) (by kernel_rfl) (by kernel_rfl) (fun _ _ _ h => h) (Or.inl ⟨by rfl, ?_⟩) (by assumption) ?_
  rotate_left
  · (intro w hSw; (try dsimp only at hSw); go_simp <;> with_reducible rfl)
  try simp only [Act.put, List.setIfInBounds_toArray, List.set_cons_zero, List.set_cons_succ]
  refine takeDT15 (i := 18) (oi := _) (v := ?_) (d := some 5) rfl (by kernel_rfl) (by kernel_rfl) (by kernel_rfl) (by kernel_rfl) (fun _ _ _ h => h) (Or.inl ⟨by rfl, ?_⟩) (by assumption) ?_
  rotate_left
  · (intro w hSw; (try dsimp only at hSw); go_simp <;> with_reducible rfl)
  try simp only [Act.put, List.setIfInBounds_toArray, List.set_cons_zero, List.set_cons_succ]
  refine wpAnyH_done (by kernel_rfl) ?_ _
  clear hHeld
  go_wp2
  refine bodyPost_ret (v := .tuple #[.agg #[.int .i64 t.s, .slice sa t.ps.length sc, .slice la t.cs.length lc], .int .i64 (IntKind.i64.wrap (z0 - 1)), .int .i64 (IntKind.i64.wrap (z1 - 1)), .int .i64 z2]) (by simp [results, Try.results17, go_sem, d0, d1, d2]; try rfl) rfl ?_
  exact ⟨t, sa, sc, la, lc, _, _, _, rfl, ⟨hs0, hs7⟩, rdT_of HSM.out HT.out.rd, HSM.out, HB.out⟩
  
set_option maxHeartbeats 4000000 in
theorem drawOth_c (ao : Option Addr) (n c : Nat) (w : World) (hn : n ≤ 9223372036854775807) (h : CodeOk w w.heap.size ao n) :
    Calls Try.prog 15 #[.slice ao n c] w fun e w' => ∃ (t : TbV) (sa : Option Addr) (sc : Nat) (la : Option Addr) (lc : Nat) (a b word : Int), e = .returned (.tuple #[.agg #[.int .i64 t.s, .slice sa t.ps.length sc, .slice la t.cs.length lc], .int .i64 a, .int .i64 b, .int .i64 word]) ∧ (0 ≤ t.s ∧ t.s ≤ 7) ∧ RdT w' sa t.ps.length sc la t.cs.length lc t ∧ SmallTb t ∧ Below w.heap.size w w' := by
  have hsz : (w.alloc (.cells #[.int .i64 0, .slice none 0 0, .slice none 0 0] 26)).heap.size = w.heap.size + 1 := by simp
  have B0 : Below w.heap.size w (w.alloc (.cells #[.int .i64 0, .slice none 0 0, .slice none 0 0] 26)) := balloc w _
  have C0 := cur_new (w := (w.alloc (.cells #[.int .i64 0, .slice none 0 0, .slice none 0 0] 26))) (c := c) 53 hn (h.later B0 (by omega))
  rw [hsz] at C0
  have B1 : Below w.heap.size w ((w.alloc (.cells #[.int .i64 0, .slice none 0 0, .slice none 0 0] 26)).alloc (.cells #[.slice ao n c, .int .i64 0, .int .u64 0] 53)) := B0.alloc (by omega) _
  have hsz2 : ((w.alloc (.cells #[.int .i64 0, .slice none 0 0, .slice none 0 0] 26)).alloc (.cells #[.slice ao n c, .int .i64 0, .int .u64 0] 53)).heap.size = w.heap.size + 2 := by simp
  have R0 : X3 ((w.alloc (.cells #[.int .i64 0, .slice none 0 0, .slice none 0 0] 26)).alloc (.cells #[.slice ao n c, .int .i64 0, .int .u64 0] 53)) w.heap.size (.int .i64 0) (.slice none 0 0) (.slice none 0 0) := (x3_new w _ _ _ _ _ rfl).later (balloc _ _)
  clear h B0
  go_enter Try.func15, Try.ntmps15
  go_wp2_with fail
  refine (table_c (w.heap.size + 1) ao n c _ _ (by omega) C0).mono ?_
  rintro e w1 ⟨t, sa, sc, la, lc, rfl, hts, hsm, htb, hcu, hg⟩
  have HSM : Hid (SmallTb t) := hsm
  have R1 := x3_gb R0 hg (by omega)
  have B2 := drawn_below B1 hg (by omega)
  have hs1 : w.heap.size + 2 ≤ w1.heap.size := by have := hg.size; omega
  have T1 := htb.mono (lo' := w.heap.size + 2) (by omega) (Nat.le_refl _)
  clear R0 B1 C0 hg htb hsm hsz hsz2
  have X1 := x3_new w1 (.int .i64 t.s) (.slice sa t.ps.length sc) (.slice la t.cs.length lc) 26 w1.heap.size rfl
  have R2 := R1.later (balloc w1 (.cells #[.int .i64 t.s, .slice sa t.ps.length sc, .slice la t.cs.length lc] 26))
  have B3 : Below w.heap.size w (w1.alloc (.cells #[.int .i64 t.s, .slice sa t.ps.length sc, .slice la t.cs.length lc] 26)) := B2.alloc (by omega) _
  have C2 := hcu.alloc (.cells #[.int .i64 t.s, .slice sa t.ps.length sc, .slice la t.cs.length lc] 26)
  have T2 := T1.later (balloc w1 (.cells #[.int .i64 t.s, .slice sa t.ps.length sc, .slice la t.cs.length lc] 26))
  clear R1 B2 hcu T1
  obtain ⟨hs0, hs7⟩ := hts
  have hwr : IntKind.i64.wrap (t.s + 1) = t.s + 1 := wrap_sm (by omega)
  obtain ⟨W, hW⟩ : ∃ D, w1.alloc (.cells #[.int .i64 t.s, .slice sa t.ps.length sc, .slice la t.cs.length lc] 26) = D := ⟨_, rfl⟩
  rw [hW] at X1 R2 B3 C2 T2
  have hs2 : w1.heap.size + 1 ≤ W.heap.size := by rw [← hW]; simp
  go_wp2_with fail
  try rw [hW]
  clear hW
  refine wp_region_held_drew (S := (fun Z => Z.cell? ⟨w1.heap.size, 0, none⟩ = some (.int .i64 t.s) ∧ Z.cell? ⟨w1.heap.size, 1, none⟩ = some (.slice sa t.ps.length sc) ∧ Z.cell? ⟨w1.heap.size, 2, none⟩ = some (.slice la t.cs.length lc))) (by kernel_rfl) ?_ (fun hHeld => ?_)
  · exact X1.1
  obtain ⟨v0, hv0⟩ : ∃ D, W.drew = D := ⟨_, rfl⟩
  have hb0 : Below W.heap.size W v0 := by rw [← hv0]; exact (Below.refl _ _).drew
  have X2 := X1.later hb0
  have R3 := R2.later hb0
  have B4 := B3.trans (hb0.mono B3.size)
  have C3 := C2.later hb0
  have T3 := T2.later hb0
  have hs3 : w1.heap.size + 1 ≤ v0.heap.size := Nat.le_trans hs2 hb0.size
  rw [hv0] at hHeld ⊢
  clear hv0 hb0 X1 R2 B3 C2 T2
  refine takeDT15 (i := 0) (oi := _) (v := ?_) (d := some 13) rfl (by kernel_rfl) (by kernel_rfl) (by kernel_rfl) (by kernel_rfl) (fun _ _ _ h => h) (Or.inl ⟨by rfl, ?_⟩) (by assumption) ?_
  rotate_left
  · (intro w hSw; (try dsimp only at hSw); go_simp <;> with_reducible rfl)
  try simp only [Act.put, List.setIfInBounds_toArray, List.set_cons_zero, List.set_cons_succ]
  refine takeDT15 (i := 1) (oi := _) (v := ?_) (d := some 14) rfl (by kernel_rfl) (by kernel_rfl) (by kernel_rfl) (by kernel_rfl) (fun _ _ _ h => h) (Or.inl ⟨by rfl, ?_⟩) (by assumption) ?_
  rotate_left
  · (intro w hSw; (try dsimp only at hSw); go_simp <;> with_reducible rfl)
  try simp only [Act.put, List.setIfInBounds_toArray, List.set_cons_zero, List.set_cons_succ]
  refine takeDT15 (i := 2) (oi := _) (v := ?_) (d := some 15) rfl (by kernel_rfl) (by kernel_rfl) (by kernel_rfl) (by kernel_rfl) (fun _ _ _ h => h) (Or.inl ⟨by rfl, ?_⟩) (by assumption) ?_
  rotate_left
  · (intro w hSw; (try dsimp only at hSw); go_simp <;> with_reducible rfl)
  try simp only [Act.put, List.setIfInBounds_toArray, List.set_cons_zero, List.set_cons_succ]
  refine takeDT15 (i := 3) (oi := _) (v := ?_) (d := some 16) rfl (by kernel_rfl) (by kernel_rfl) (by kernel_rfl) (by kernel_rfl) (fun _ _ _ h => h) (Or.inl ⟨by rfl, ?_⟩) (by assumption) ?_
  rotate_left
  · (intro w hSw; (try dsimp only at hSw); go_simp <;> with_reducible rfl)
  try simp only [Act.put, List.setIfInBounds_toArray, List.set_cons_zero, List.set_cons_succ]
  refine takeDT15 (i := 4) (oi := _) (v := ?_) (d := some 17) rfl (by kernel_rfl) (by kernel_rfl) (by kernel_rfl) (by kernel_rfl) (fun _ _ _ h => h) (Or.inl ⟨by rfl, ?_⟩) (by assumption) ?_
  rotate_left
  · (intro w hSw; (try dsimp only at hSw); go_simp <;> with_reducible rfl)
  try simp only [Act.put, List.setIfInBounds_toArray, List.set_cons_zero, List.set_cons_succ]
  refine takeDT15 (i := 6) (oi := _) (v := ?_) (d := some 19) rfl (by kernel_rfl) (by kernel_rfl) (by kernel_rfl) (by kernel_rfl) (fun _ _ _ h => h) (Or.inl ⟨by rfl, ?_⟩) (by assumption) ?_
  rotate_left
  · (intro w hSw; (try dsimp only at hSw); go_simp <;> with_reducible rfl)
  try simp only [Act.put, List.setIfInBounds_toArray, List.set_cons_zero, List.set_cons_succ]
  refine takeDT15 (i := 7) (oi := _) (v := ?_) (d := some 20) rfl (by kernel_rfl) (by kernel_rfl) (by kernel_rfl) (by kernel_rfl) (fun _ _ _ h => h) (Or.inl ⟨by rfl, ?_⟩) (by assumption) ?_
  rotate_left
  · (intro w hSw; (try dsimp only at hSw); go_simp <;> with_reducible rfl)
  try simp only [Act.put, List.setIfInBounds_toArray, List.set_cons_zero, List.set_cons_succ]
  refine takeDT15 (i := 8) (oi := _) (v := ?_) (d := some 21) rfl (by kernel_rfl) (by kernel_rfl) (by kernel_rfl) (by kernel_rfl) (fun _ _ _ h => h) (Or.inl ⟨by rfl, ?_⟩) (by assumption) ?_
  rotate_left
  · (intro w hSw; (try dsimp only at hSw); go_simp <;> with_reducible rfl)
  try simp only [Act.put, List.setIfInBounds_toArray, List.set_cons_zero, List.set_cons_succ]
  refine takeDT15 (i := 9) (oi := _) (v := ?_) (d := some 22) rfl (by kernel_rfl) (by kernel_rfl) (by kernel_rfl) (by kernel_rfl) (fun _ _ _ h => h) (Or.inl ⟨by rfl, ?_⟩) (by assumption) ?_
  rotate_left
  · (intro w hSw; (try dsimp only at hSw); go_simp <;> with_reducible rfl)
  try simp only [Act.put, List.setIfInBounds_toArray, List.set_cons_zero, List.set_cons_succ]
  refine takeDT15 (i := 11) (oi := _) (v := ?_) (d := some 24) rfl (by kernel_rfl) (by kernel_rfl) (by kernel_rfl) (by kernel_rfl) (fun _ _ _ h => h) (Or.inl ⟨by rfl, ?_⟩) (by assumption) ?_
  rotate_left
  · (intro w hSw; (try dsimp only at hSw); go_simp <;> with_reducible rfl)
  try simp only [Act.put, List.setIfInBounds_toArray, List.set_cons_zero, List.set_cons_succ]
  have X_0 := X2
  have R_0 := R3
  have B_0 := B4
  have C_0 := C3
  have T_0 := T3
  clear X2 R3 B4 C3 T3
  refine wpAnyH_ready (rs := [5]) (by kernel_rfl) (by simp) ?_
  refine AllReadyH.cons (o := _) rfl (fun K hK => ?_) AllReadyH.nil
  go_simp
  refine (pick_c (w.heap.size + 1) ao n c _ _ v0 (by omega) (by omega) C_0).mono ?_
  rintro e v1 ⟨z0, rfl, hz0, hy0, hc, hg⟩
  have X_1 := x3_gb X_0 hg (by omega)
  have R_1 := x3_gb R_0 hg (by omega)
  have B_1 := drawn_below B_0 hg (by omega)
  have T_1 := T_0.gb hg (by omega)
  have C_1 := hc
  clear hc hg X_0 R_0 B_0 C_0 T_0
  refine hK.out _ _ ?_ (fun hHeld => ?_)
  · exact X_1.1
  clear hK K
  try simp only [Act.put, List.setIfInBounds_toArray, List.set_cons_zero, List.set_cons_succ]
  refine wpAnyH_ready (rs := [10]) (by kernel_rfl) (by simp) ?_
  refine AllReadyH.cons (o := _) rfl (fun K hK => ?_) AllReadyH.nil
  go_simp
  refine (pick_c (w.heap.size + 1) ao n c _ _ v1 (by omega) (by omega) C_1).mono ?_
  rintro e v2 ⟨z1, rfl, hz1, hy1, hc, hg⟩
  have X_2 := x3_gb X_1 hg (by omega)
  have R_2 := x3_gb R_1 hg (by omega)
  have B_2 := drawn_below B_1 hg (by omega)
  have T_2 := T_1.gb hg (by omega)
  have C_2 := hc
  clear hc hg X_1 R_1 B_1 C_1 T_1
  refine hK.out _ _ ?_ (fun hHeld => ?_)
  · exact X_2.1
  clear hK K
  try simp only [Act.put, List.setIfInBounds_toArray, List.set_cons_zero, List.set_cons_succ]
  refine wpAnyH_ready (rs := [12]) (by kernel_rfl) (by simp) ?_
  refine AllReadyH.cons (o := _) rfl (fun K hK => ?_) AllReadyH.nil
  go_simp
  refine (word15_c (w.heap.size + 1) ao n c _ v2 (by omega) C_2).mono ?_
  rintro e v3 ⟨z2, rfl, hz2, hc, hg⟩
  have X_3 := x3_gb X_2 hg (by omega)
  have R_3 := x3_gb R_2 hg (by omega)
  have B_3 := drawn_below B_2 hg (by omega)
  have T_3 := T_2.gb hg (by omega)
  have C_3 := hc
  clear hc hg X_2 R_2 B_2 C_2 T_2
  refine hK.out _ _ ?_ (fun hHeld => ?_)
  · exact X_3.1
  clear hK K
  try simp only [Act.put, List.setIfInBounds_toArray, List.set_cons_zero, List.set_cons_succ]
  have hb9 : Below w.heap.size v3 (((v3.setCell ⟨w.heap.size, 0, none⟩ (.int .i64 t.s)).setCell ⟨w.heap.size, 1, none⟩ (.slice sa t.ps.length sc)).setCell ⟨w.heap.size, 2, none⟩ (.slice la t.cs.length lc)) := ((below_set _ _ _ _).setCell (p := ⟨w.heap.size, 1, none⟩) (Nat.le_refl _) _).setCell (p := ⟨w.heap.size, 2, none⟩) (Nat.le_refl _) _
  have HB : Hid (Below w.heap.size w (((v3.setCell ⟨w.heap.size, 0, none⟩ (.int .i64 t.s)).setCell ⟨w.heap.size, 1, none⟩ (.slice sa t.ps.length sc)).setCell ⟨w.heap.size, 2, none⟩ (.slice la t.cs.length lc))) := B_3.trans hb9
  have HT : Hid (OwnTb (((v3.setCell ⟨w.heap.size, 0, none⟩ (.int .i64 t.s)).setCell ⟨w.heap.size, 1, none⟩ (.slice sa t.ps.length sc)).setCell ⟨w.heap.size, 2, none⟩ (.slice la t.cs.length lc)) (w.heap.size + 2) w1.heap.size (.slice sa t.ps.length sc) (.slice la t.cs.length lc) t) := ((T_3.set (by omega) _).set (by omega) _).set (by omega) _
  obtain ⟨⟨e0, e1, e2⟩, ez⟩ := id R_3
  obtain ⟨⟨d0, d1, d2⟩, dz⟩ := id (((R_3.set0 (.int .i64 t.s)).set1 (.slice sa t.ps.length sc)).set2 (.slice la t.cs.length lc))
  have X_s := ((X_3.other (r' := w.heap.size) (j' := 0) (u := .int .i64 t.s) (by omega)).other (r' := w.heap.size) (j' := 1) (u := .slice sa t.ps.length sc) (by omega)).other (r' := w.heap.size) (j' := 2) (u := .slice la t.cs.length lc) (by omega)
  clear dz hb9 B_3 T_3 C_3
  refine wpAnyH_ready (rs := [13]) (by kernel_rfl) (by simp) ?_
  refine AllReadyH.cons (o := _) rfl (fun K hK => ?_) AllReadyH.nil
  go_simp
  refine hK.out _ _ ?_ (fun hHeld => ?_)
  · exact X_s.1
  clear hK K
  try simp only [Act.put, List.setIfInBounds_toArray, List.set_cons_zero, List.set_cons_succ]
  refine takeDT15 (i := 14) (oi := _) (v := ?_) (d := some 3) rfl (by kernel_rfl) (by kernel_rfl) (by kernel_rfl) (by kernel_rfl) (fun _ _ _ h => h) (Or.inl ⟨by rfl, ?_⟩) (by assumption) ?_
  rotate_left
  · (intro w hSw; (try dsimp only at hSw); go_simp <;> with_reducible rfl)
  try simp only [Act.put, List.setIfInBounds_toArray, List.set_cons_zero, List.set_cons_succ]
  refine takeDT15 (i := 15) (oi := _) (v := ?_) (d := some 4) rfl (by kernel_rfl) (by kernel_rfl) (by kernel_rfl) (by kernel_rfl) (fun _ _ _ h => h) (Or.inl ⟨by rfl, ?_⟩) (by assumption) ?_
  rotate_left
  · (intro w hSw; (try dsimp only at hSw); go_simp <;> with_reducible rfl)
  try simp only [Act.put, List.setIfInBounds_toArray, List.set_cons_zero, List.set_cons_succ]
  refine takeDT15 (i := 16) (oi := _) (v := ?_) (d := some 5) rfl (by kernel_rfl) (by kernel_rfl) (by kernel_rfl) (by kernel_rfl) (fun _ _ _ h => h) (Or.inl ⟨by rfl, ?_⟩) (by assumption) ?_
  rotate_left
  · (intro w hSw; (try dsimp only at hSw); go_simp <;> with_reducible rfl)
  try simp only [Act.put, List.setIfInBounds_toArray, List.set_cons_zero, List.set_cons_succ]
  refine wpAnyH_done (by kernel_rfl) ?_ _
  clear hHeld
  go_wp2
  refine bodyPost_ret (v := .tuple #[.agg #[.int .i64 t.s, .slice sa t.ps.length sc, .slice la t.cs.length lc], .int .i64 z0, .int .i64 z1, .int .i64 z2]) (by simp [results, Try.results15, go_sem, d0, d1, d2]; try rfl) rfl ?_
  exact ⟨t, sa, sc, la, lc, _, _, _, rfl, ⟨hs0, hs7⟩, rdT_of HSM.out HT.out.rd, HSM.out, HB.out⟩
  
end Go.Proofs.Ytbjpkklonjlmiaa
