/- Chapter 15: what is drawn for the law of groups. -/
import Derived.Test.YtbjpkklonjlmiaaDY15
namespace Go.Proofs.Ytbjpkklonjlmiaa
set_option linter.unusedVariables false
set_option maxRecDepth 1000000
set_option linter.unusedSimpArgs false
open Go.RowKit

set_option maxHeartbeats 4000000 in
theorem drawWay_c (ao : Option Addr) (n c : Nat) (w : World) (hn : n ≤ 9223372036854775807) (h : CodeOk w w.heap.size ao n) :
    Calls Try.prog 23 #[.slice ao n c] w fun e w' => ∃ (t : TbV) (sa : Option Addr) (sc : Nat) (la : Option Addr) (lc : Nat) (a b : Int), e = .returned (.tuple #[.agg #[.int .i64 t.s, .slice sa t.ps.length sc, .slice la t.cs.length lc], .int .i64 a, .int .i64 b]) ∧ (0 ≤ t.s ∧ t.s ≤ 7) ∧ RdT w' sa t.ps.length sc la t.cs.length lc t ∧ SmallTb t ∧ Below w.heap.size w w' := by
  have hsz : (w.alloc (.cells #[.int .i64 0, .slice none 0 0, .slice none 0 0] 26)).heap.size = w.heap.size + 1 := by simp
  have B0 : Below w.heap.size w (w.alloc (.cells #[.int .i64 0, .slice none 0 0, .slice none 0 0] 26)) := balloc w _
  have C0 := cur_new (w := (w.alloc (.cells #[.int .i64 0, .slice none 0 0, .slice none 0 0] 26))) (c := c) 53 hn (h.later B0 (by omega))
  rw [hsz] at C0
  have B1 : Below w.heap.size w ((w.alloc (.cells #[.int .i64 0, .slice none 0 0, .slice none 0 0] 26)).alloc (.cells #[.slice ao n c, .int .i64 0, .int .u64 0] 53)) := B0.alloc (by omega) _
  have hsz2 : ((w.alloc (.cells #[.int .i64 0, .slice none 0 0, .slice none 0 0] 26)).alloc (.cells #[.slice ao n c, .int .i64 0, .int .u64 0] 53)).heap.size = w.heap.size + 2 := by simp
  have R0 : X3 ((w.alloc (.cells #[.int .i64 0, .slice none 0 0, .slice none 0 0] 26)).alloc (.cells #[.slice ao n c, .int .i64 0, .int .u64 0] 53)) w.heap.size (.int .i64 0) (.slice none 0 0) (.slice none 0 0) := (x3_new w _ _ _ _ _ rfl).later (balloc _ _)
  clear h B0
  go_enter Try.func23, Try.ntmps23
  go_wp2_with fail
  refine (table_c (w.heap.size + 1) ao n c _ _ (by omega) C0).mono ?_
  rintro e w1 ⟨t, sa, sc, la, lc, rfl, hts, hsm, htb, hcu, hg⟩
  have HSM : Hid (SmallTb t) := hsm
  have R1 := x3_gb R0 hg (by omega)
  have B2 := drawn_below B1 hg (by omega)
  have hs1 : w.heap.size + 2 ≤ w1.heap.size := by have := hg.size; omega
  have T1 := htb.mono (lo' := w.heap.size + 2) (by omega) (Nat.le_refl _)
  clear R0 B1 C0 hg htb hsm hsz hsz2
  have X1 := x3_new w1 (.int .i64 t.s) (.slice sa t.ps.length sc) (.slice la t.cs.length lc) 26 w1.heap.size rfl
  have R2 := R1.later (balloc w1 (.cells #[.int .i64 t.s, .slice sa t.ps.length sc, .slice la t.cs.length lc] 26))
  have B3 : Below w.heap.size w (w1.alloc (.cells #[.int .i64 t.s, .slice sa t.ps.length sc, .slice la t.cs.length lc] 26)) := B2.alloc (by omega) _
  have C2 := hcu.alloc (.cells #[.int .i64 t.s, .slice sa t.ps.length sc, .slice la t.cs.length lc] 26)
  have T2 := T1.later (balloc w1 (.cells #[.int .i64 t.s, .slice sa t.ps.length sc, .slice la t.cs.length lc] 26))
  clear R1 B2 hcu T1
  obtain ⟨hs0, hs7⟩ := hts
  have hwr : IntKind.i64.wrap (t.s + 1) = t.s + 1 := wrap_sm (by omega)
  obtain ⟨W, hW⟩ : ∃ D, w1.alloc (.cells #[.int .i64 t.s, .slice sa t.ps.length sc, .slice la t.cs.length lc] 26) = D := ⟨_, rfl⟩
  rw [hW] at X1 R2 B3 C2 T2
  have hs2 : w1.heap.size + 1 ≤ W.heap.size := by rw [← hW]; simp
  go_wp2_with fail
  try rw [hW]
  clear hW
  refine wp_region_held_drew (S := (fun Z => Z.cell? ⟨w1.heap.size, 0, none⟩ = some (.int .i64 t.s) ∧ Z.cell? ⟨w1.heap.size, 1, none⟩ = some (.slice sa t.ps.length sc) ∧ Z.cell? ⟨w1.heap.size, 2, none⟩ = some (.slice la t.cs.length lc))) (by kernel_rfl) ?_ (fun hHeld => ?_)
  · exact X1.1
  obtain ⟨v0, hv0⟩ : ∃ D, W.drew = D := ⟨_, rfl⟩
  have hb0 : Below W.heap.size W v0 := by rw [← hv0]; exact (Below.refl _ _).drew
  have X2 := X1.later hb0
  have R3 := R2.later hb0
  have B4 := B3.trans (hb0.mono B3.size)
  have C3 := C2.later hb0
  have T3 := T2.later hb0
  have hs3 : w1.heap.size + 1 ≤ v0.heap.size := Nat.le_trans hs2 hb0.size
  rw [hv0] at hHeld ⊢
  clear hv0 hb0 X1 R2 B3 C2 T2
  refine takeDT15 (i := 0) (oi := _) (v := ?_) (d := some 12) rfl (by kernel_rfl) (by kernel_rfl) (by kernel_rfl) (by kernel_rfl) (fun _ _ _ h => h) (Or.inl ⟨by rfl, ?_⟩) (by assumption) ?_
  rotate_left
  · (intro w hSw; (try dsimp only at hSw); go_simp <;> with_reducible rfl)
  try simp only [Act.put, List.setIfInBounds_toArray, List.set_cons_zero, List.set_cons_succ]
  refine takeDT15 (i := 1) (oi := _) (v := ?_) (d := some 13) rfl (by kernel_rfl) (by kernel_rfl) (by kernel_rfl) (by kernel_rfl) (fun _ _ _ h => h) (Or.inl ⟨by rfl, ?_⟩) (by assumption) ?_
  rotate_left
  · (intro w hSw; (try dsimp only at hSw); go_simp <;> with_reducible rfl)
  try simp only [Act.put, List.setIfInBounds_toArray, List.set_cons_zero, List.set_cons_succ]
  refine takeDT15 (i := 2) (oi := _) (v := ?_) (d := some 14) rfl (by kernel_rfl) (by kernel_rfl) (by kernel_rfl) (by kernel_rfl) (fun _ _ _ h => h) (Or.inl ⟨by rfl, ?_⟩) (by assumption) ?_
  rotate_left
  · (intro w hSw; (try dsimp only at hSw); go_simp <;> with_reducible rfl)
  try simp only [Act.put, List.setIfInBounds_toArray, List.set_cons_zero, List.set_cons_succ]
  refine takeDT15 (i := 3) (oi := _) (v := ?_) (d := some 15) rfl (by kernel_rfl) (by kernel_rfl) (by kernel_rfl) (by kernel_rfl) (fun _ _ _ h => h) (Or.inl ⟨by rfl, ?_⟩) (by assumption) ?_
  rotate_left
  · (intro w hSw; (try dsimp only at hSw); go_simp <;> with_reducible rfl)
  try simp only [Act.put, List.setIfInBounds_toArray, List.set_cons_zero, List.set_cons_succ]
  refine takeDT15 (i := 4) (oi := _) (v := ?_) (d := some 16) rfl (by kernel_rfl) (by kernel_rfl) (by kernel_rfl) (by kernel_rfl) (fun _ _ _ h => h) (Or.inl ⟨by rfl, ?_⟩) (by assumption) ?_
  rotate_left
  · (intro w hSw; (try dsimp only at hSw); go_simp <;> with_reducible rfl)
  try simp only [Act.put, List.setIfInBounds_toArray, List.set_cons_zero, List.set_cons_succ]
  refine takeDT15 (i := 6) (oi := _) (v := ?_) (d := some 18) rfl (by kernel_rfl) (by kernel_rfl) (by kernel_rfl) (by kernel_rfl) (fun _ _ _ h => h) (Or.inl ⟨by rfl, ?_⟩) (by assumption) ?_
  rotate_left
  · (intro w hSw; (try dsimp only at hSw); go_simp <;> with_reducible rfl)
  try simp only [Act.put, List.setIfInBounds_toArray, List.set_cons_zero, List.set_cons_succ]
  refine takeDT15 (i := 10) (oi := _) (v := ?_) (d := some 22) rfl (by kernel_rfl) (by kernel_rfl) (by kernel_rfl) (by kernel_rfl) (fun _ _ _ h => h) (Or.inl ⟨by rfl, ?_⟩) (by assumption) ?_
  rotate_left
  · (intro w hSw; (try dsimp only at hSw); go_simp <;> with_reducible rfl)
  try simp only [Act.put, List.setIfInBounds_toArray, List.set_cons_zero, List.set_cons_succ]
  refine takeDT15 (i := 11) (oi := _) (v := ?_) (d := some 23) rfl (by kernel_rfl) (by kernel_rfl) (by kernel_rfl) (by kernel_rfl) (fun _ _ _ h => h) (Or.inl ⟨by rfl, ?_⟩) (by assumption) ?_
  rotate_left
  · (intro w hSw; (try dsimp only at hSw); go_simp <;> with_reducible rfl)
  try simp only [Act.put, List.setIfInBounds_toArray, List.set_cons_zero, List.set_cons_succ]
  refine takeDT15 (i := 12) (oi := _) (v := ?_) (d := some 24) rfl (by kernel_rfl) (by kernel_rfl) (by kernel_rfl) (by kernel_rfl) (fun _ _ _ h => h) (Or.inl ⟨by rfl, ?_⟩) (by assumption) ?_
  rotate_left
  · (intro w hSw; (try dsimp only at hSw); go_simp <;> with_reducible rfl)
  try simp only [Act.put, List.setIfInBounds_toArray, List.set_cons_zero, List.set_cons_succ]
  refine takeDT15 (i := 13) (oi := _) (v := ?_) (d := some 25) rfl (by kernel_rfl) (by kernel_rfl) (by kernel_rfl) (by kernel_rfl) (fun _ _ _ h => h) (Or.inl ⟨by rfl, ?_⟩) (by assumption) ?_
  rotate_left
  · (intro w hSw; (try dsimp only at hSw); go_simp <;> with_reducible rfl)
  try simp only [Act.put, List.setIfInBounds_toArray, List.set_cons_zero, List.set_cons_succ]
  have X_0 := X2
  have R_0 := R3
  have B_0 := B4
  have C_0 := C3
  have T_0 := T3
  clear X2 R3 B4 C3 T3
  refine wpAnyH_ready (rs := [5]) (by kernel_rfl) (by simp) ?_
  refine AllReadyH.cons (o := _) rfl (fun K hK => ?_) AllReadyH.nil
  go_simp
  refine (pick_c (w.heap.size + 1) ao n c _ _ v0 (by omega) (by omega) C_0).mono ?_
  rintro e v1 ⟨z0, rfl, hz0, hy0, hc, hg⟩
  have X_1 := x3_gb X_0 hg (by omega)
  have R_1 := x3_gb R_0 hg (by omega)
  have B_1 := drawn_below B_0 hg (by omega)
  have T_1 := T_0.gb hg (by omega)
  have C_1 := hc
  clear hc hg X_0 R_0 B_0 C_0 T_0
  refine hK.out _ _ ?_ (fun hHeld => ?_)
  · exact X_1.1
  clear hK K
  try simp only [Act.put, List.setIfInBounds_toArray, List.set_cons_zero, List.set_cons_succ]
  refine wpAnyH_ready (rs := [7]) (by kernel_rfl) (by simp) ?_
  refine AllReadyH.cons (o := _) rfl (fun K hK => ?_) AllReadyH.nil
  go_simp
  refine (pick_c (w.heap.size + 1) ao n c _ _ v1 (by omega) (by omega) C_1).mono ?_
  rintro e v2 ⟨z1, rfl, hz1, hy1, hc, hg⟩
  have X_2 := x3_gb X_1 hg (by omega)
  have R_2 := x3_gb R_1 hg (by omega)
  have B_2 := drawn_below B_1 hg (by omega)
  have T_2 := T_1.gb hg (by omega)
  have C_2 := hc
  clear hc hg X_1 R_1 B_1 C_1 T_1
  refine hK.out _ _ ?_ (fun hHeld => ?_)
  · exact X_2.1
  clear hK K
  try simp only [Act.put, List.setIfInBounds_toArray, List.set_cons_zero, List.set_cons_succ]
  refine takeDT15 (i := 8) (oi := _) (v := ?_) (d := some 20) rfl (by kernel_rfl) (by kernel_rfl) (by kernel_rfl) (by kernel_rfl) (fun _ _ _ h => h) (Or.inl ⟨by rfl, ?_⟩) (by assumption) ?_
  rotate_left
  · (intro w hSw; (try dsimp only at hSw); go_simp <;> with_reducible rfl)
  try simp only [Act.put, List.setIfInBounds_toArray, List.set_cons_zero, List.set_cons_succ]
  refine takeDT15 (i := 9) (oi := _) (v := ?_) (d := some 21) rfl (by kernel_rfl) (by kernel_rfl) (by kernel_rfl) (by kernel_rfl) (fun _ _ _ h => h) (Or.inl ⟨by rfl, ?_⟩) (by assumption) ?_
  rotate_left
  · (intro w hSw; (try dsimp only at hSw); go_simp <;> with_reducible rfl)
  try simp only [Act.put, List.setIfInBounds_toArray, List.set_cons_zero, List.set_cons_succ]
  refine wpAnyH_ready (rs := [14]) (by kernel_rfl) (by simp) ?_
  refine AllReadyH.cons (o := _) rfl (fun K hK => ?_) AllReadyH.nil
  go_simp
  refine (pick_c (w.heap.size + 1) ao n c _ _ v2 (by omega) (by omega) C_2).mono ?_
  rintro e v3 ⟨z2, rfl, hz2, hy2, hc, hg⟩
  have X_3 := x3_gb X_2 hg (by omega)
  have R_3 := x3_gb R_2 hg (by omega)
  have B_3 := drawn_below B_2 hg (by omega)
  have T_3 := T_2.gb hg (by omega)
  have C_3 := hc
  clear hc hg X_2 R_2 B_2 C_2 T_2
  refine hK.out _ _ ?_ (fun hHeld => ?_)
  · exact X_3.1
  clear hK K
  try simp only [Act.put, List.setIfInBounds_toArray, List.set_cons_zero, List.set_cons_succ]
  have hb9 : Below w.heap.size v3 (((v3.setCell ⟨w.heap.size, 0, none⟩ (.int .i64 t.s)).setCell ⟨w.heap.size, 1, none⟩ (.slice sa t.ps.length sc)).setCell ⟨w.heap.size, 2, none⟩ (.slice la t.cs.length lc)) := ((below_set _ _ _ _).setCell (p := ⟨w.heap.size, 1, none⟩) (Nat.le_refl _) _).setCell (p := ⟨w.heap.size, 2, none⟩) (Nat.le_refl _) _
  have HB : Hid (Below w.heap.size w (((v3.setCell ⟨w.heap.size, 0, none⟩ (.int .i64 t.s)).setCell ⟨w.heap.size, 1, none⟩ (.slice sa t.ps.length sc)).setCell ⟨w.heap.size, 2, none⟩ (.slice la t.cs.length lc))) := B_3.trans hb9
  have HT : Hid (OwnTb (((v3.setCell ⟨w.heap.size, 0, none⟩ (.int .i64 t.s)).setCell ⟨w.heap.size, 1, none⟩ (.slice sa t.ps.length sc)).setCell ⟨w.heap.size, 2, none⟩ (.slice la t.cs.length lc)) (w.heap.size + 2) w1.heap.size (.slice sa t.ps.length sc) (.slice la t.cs.length lc) t) := ((T_3.set (by omega) _).set (by omega) _).set (by omega) _
  obtain ⟨⟨e0, e1, e2⟩, ez⟩ := id R_3
  obtain ⟨⟨d0, d1, d2⟩, dz⟩ := id (((R_3.set0 (.int .i64 t.s)).set1 (.slice sa t.ps.length sc)).set2 (.slice la t.cs.length lc))
  have X_s := ((X_3.other (r' := w.heap.size) (j' := 0) (u := .int .i64 t.s) (by omega)).other (r' := w.heap.size) (j' := 1) (u := .slice sa t.ps.length sc) (by omega)).other (r' := w.heap.size) (j' := 2) (u := .slice la t.cs.length lc) (by omega)
  clear dz hb9 B_3 T_3 C_3
  refine wpAnyH_ready (rs := [15]) (by kernel_rfl) (by simp) ?_
  refine AllReadyH.cons (o := _) rfl (fun K hK => ?_) AllReadyH.nil
  go_simp
  refine hK.out _ _ ?_ (fun hHeld => ?_)
  · exact X_s.1
  clear hK K
  try simp only [Act.put, List.setIfInBounds_toArray, List.set_cons_zero, List.set_cons_succ]
  refine takeDT15 (i := 16) (oi := _) (v := ?_) (d := some 3) rfl (by kernel_rfl) (by kernel_rfl) (by kernel_rfl) (by kernel_rfl) (fun _ _ _ h => h) (Or.inl ⟨by rfl, ?_⟩) (by assumption) ?_
  rotate_left
  · (intro w hSw; (try dsimp only at hSw); go_simp <;> with_reducible rfl)
  try simp only [Act.put, List.setIfInBounds_toArray, List.set_cons_zero, List.set_cons_succ]
  refine takeDT15 (i := 17) (oi := _) (v := ?_) (d := some 4) rfl (by kernel_rfl) (by kernel_rfl) (by kernel_rfl) (by kernel_rfl) (fun _ _ _ h => h) (Or.inl ⟨by rfl, ?_⟩) (by assumption) ?_
  rotate_left
  · (intro w hSw; (try dsimp only at hSw); go_simp <;> with_reducible rfl)
  try simp only [Act.put, List.setIfInBounds_toArray, List.set_cons_zero, List.set_cons_succ]
  refine wpAnyH_done (by kernel_rfl) ?_ _
  clear hHeld
  go_wp2
  refine bodyPost_ret (v := .tuple #[.agg #[.int .i64 t.s, .slice sa t.ps.length sc, .slice la t.cs.length lc], .int .i64 (IntKind.i64.wrap (z0 - IntKind.i64.wrap (z1.tdiv 8))), .int .i64 z2]) (by simp [results, Try.results23, go_sem, d0, d1, d2]; try rfl) rfl ?_
  exact ⟨t, sa, sc, la, lc, _, _, rfl, ⟨hs0, hs7⟩, rdT_of HSM.out HT.out.rd, HSM.out, HB.out⟩
  
theorem push_below {w : World} {base : Nat} {v : Value} {xs : List Int} (hown : Own w base v xs) {w' : World} (hb : base ≤ w.heap.size) (hg : w.grownBy w' v.ownBlock) : Below base w w' := (RngP.ofGrown (pp := fun k => v.ownBlock = some k) hg (fun k e => e)).below (fun k e => own_block_ge hown k e) hb
theorem ownTb_low {w w' : World} {lo hi B : Nat} {S L : Value} {b : TbV} (h : OwnTb w lo hi S L b) (hb : Below B w w') (hh : hi ≤ B) : OwnTb w' lo hi S L b := by
  obtain ⟨pp, h1, h2, h3⟩ := h.ex
  exact h.rng (qq := fun k => B ≤ k) ⟨hb.os, hb.tape, hb.output, hb.size, fun q hq ho => hb.block q (by omega)⟩ (fun k h4 h5 h6 => by omega)
theorem own_gb {w w' : World} {base g : Nat} {v : Value} {xs : List Int} (h : Own w base v xs) (hg : GB g w w') (hlt : g < base) : Own w' base v xs := h.rngP (pp := fun k => k = g) (RngP.ofGrown hg (fun k e => by injection e with e; exact e.symm)) (fun k e => by have := own_block_ge h k e; omega)


set_option maxHeartbeats 4000000 in
theorem drawSum_c (ao : Option Addr) (n c : Nat) (w : World) (hn : n ≤ 9223372036854775807) (h : CodeOk w w.heap.size ao n) :
    Calls Try.prog 29 #[.slice ao n c] w fun e w' => ∃ l a' c', e = .returned (.slice a' l.length c') ∧ l.length ≤ 8 ∧ Own w' w.heap.size (.slice a' l.length c') l ∧ Below w.heap.size w w' := by
  have C0 := cur_new (w := w) (c := c) 53 hn h
  have B1 : Below w.heap.size w (w.alloc (.cells #[.slice ao n c, .int .i64 0, .int .u64 0] 53)) := balloc w _
  have hsz : (w.alloc (.cells #[.slice ao n c, .int .i64 0, .int .u64 0] 53)).heap.size = w.heap.size + 1 := by simp
  have HCL : Hid (CodeLt ao n (w.heap.size + 1)) := by have h9 := C0.codeLt; rw [hsz] at h9; exact h9
  clear h
  go_enter Try.func29, Try.ntmps29
  go_wp2_with fail
  refine (pick_c w.heap.size ao n c _ 8 _ (by omega) (by omega) C0).mono ?_
  rintro e w1 ⟨z, rfl, hz0, hz1, hc, hg⟩
  have HC1 : Hid (Cur w1 w.heap.size ao n c 10) := hc.mono (by omega)
  have HB1 : Hid (Below w.heap.size w w1) := drawn_below B1 hg (Nat.le_refl _)
  have hs1 : w.heap.size + 1 ≤ w1.heap.size := by have := hg.size; omega
  clear hc hg B1 C0 hsz
  obtain ⟨n0, hn0⟩ : ∃ n0 : Nat, z = n0 := ⟨z.toNat, by omega⟩
  subst hn0
  go_wp2
  go_loopw [4, 5] (fun lv nv wr => ∃ (m : Nat) (l : List Int) (la : Option Addr) (lc : Nat), m ≤ 8 ∧ lv = .slice la l.length lc ∧ nv = .int .i64 (m : Int) ∧ l.length ≤ 8 - m ∧ Hid (Own wr (w.heap.size + 1) (.slice la l.length lc) l) ∧ Hid (Cur wr w.heap.size ao n c (10 + 2 * (8 - (m : Int)))) ∧ Hid (Below w.heap.size w wr) ∧ w.heap.size + 1 ≤ wr.heap.size) (fun _ nv _ => (intOf nv).toNat)
  case atStart => exact ⟨n0, [], none, 0, by omega, rfl, by go_num, by simp, World.ownsRow_nil _ _ _ _, HC1.out.mono (by omega), HB1.out, hs1⟩
  case round =>
    obtain ⟨m, l, la, lc, hm, rfl, rfl, hll, HO, HC, HB, hsw⟩ := hrel
    cases m with
    | succ m =>
      have hm0 : (0 : Int) < ((m + 1 : Nat) : Int) := by omega
      go_wp2_with fail
      refine (pick_c w.heap.size ao n c _ 256 wr (by omega) (by omega) HC.out).mono ?_
      rintro e v1 ⟨y, rfl, hy0, hy1, hcu, hgb⟩
      have hO1 := own_gb HO.out hgb (by omega)
      have hB1 := drawn_below HB.out hgb (Nat.le_refl _)
      have hs2 := Nat.le_trans hsw hgb.size
      clear HO HC HB hsw hgb
      obtain ⟨g2, cap2, v2, hrun, how, hgr, hgg, hglt⟩ := push1_run v1 (w.heap.size + 1) _ l y hO1 (by omega) hs2
      have hbl := push_below hO1 hs2 hgr
      have hlen : (l ++ [y]).length = l.length + 1 := by simp
      have HO2 : Hid (Own v2 (w.heap.size + 1) (.slice (some ⟨g2, 0, none⟩) (l.length + 1) cap2) (l ++ [y])) := how
      have HC2 : Hid (Cur v2 w.heap.size ao n c _) := cur_low hcu hbl HCL.out (by omega)
      have HB2 : Hid (Below w.heap.size w v2) := hB1.trans (hbl.mono (by omega))
      have hs3 : w.heap.size + 1 ≤ v2.heap.size := Nat.le_trans hs2 hbl.size
      clear hO1 hB1 how hgr hgg hglt hbl hcu
      go_wp2_with (at_builtin; refine Lib.wpList_append_run _ rfl _ _ _ _ rfl _ _ rfl rfl _ _ (hrun _) ?_; clear hrun)
      go_roundw
      case rel => exact ⟨m, l ++ [y], some ⟨g2, 0, none⟩, cap2, by omega, by rw [hlen], by go_num, by rw [hlen]; omega, by rw [hlen]; exact HO2, HC2.out.mono (by omega), HB2, hs3⟩
      case measure => simp [intOf]
    | zero =>
      by_cases h0 : l.length = 0
      · have hl0 : l = [] := List.eq_nil_of_length_eq_zero h0
        subst hl0
        have h0i : ¬ (0 : Int) < (([] : List Int).length : Int) := by simp
        go_wp2
        go_ret
        exact ⟨[], la, lc, rfl, by simp, HO.out.mono (by omega), HB.out⟩
      · have hp0 : 0 < l.length := by omega
        rcases HO.out.2 with ⟨e0, e9⟩ | ⟨g2, cap', cur, e0, hb, hgx, hnx, hmx, hsx, htx⟩
        · injection e0 with e1 e3; omega
        injection e0 with e1 _ e3
        subst e1; subst e3
        clear hgx hmx hsx htx h0
        have hp : (0 : Int) < (l.length : Int) := by omega
        go_wp2_with fail
        refine (one_c w.heap.size ao n c _ 12 wr (by omega) (by omega) HC.out).mono ?_
        rintro e v1 ⟨bo, rfl, hcu, hgb⟩
        have hO1 := own_gb HO.out hgb (by omega)
        have hB1 := drawn_below HB.out hgb (Nat.le_refl _)
        have hs2 := Nat.le_trans hsw hgb.size
        clear HO HC HB hsw hgb
        cases bo
        · have HO1 : Hid (Own v1 (w.heap.size + 1) (.slice (some ⟨g2, 0, none⟩) l.length lc) l) := hO1
          have HB9 : Hid (Below w.heap.size w v1) := hB1
          clear hO1 hB1 hcu
          go_wp2
          go_ret
          exact ⟨l, _, _, rfl, by omega, HO1.out.mono (by omega), HB9.out⟩
        · have HL := lit_cells (fun _ => True) v1 #[.int .i64 (-1), .int .i64 256] 3 2 rfl (by simp [allP])
          have hcu2 := hcu.alloc (.cells #[.int .i64 (-1), .int .i64 256] 3)
          have hO2 := hO1.later (balloc v1 (.cells #[.int .i64 (-1), .int .i64 256] 3))
          have hB2 : Below w.heap.size w (v1.alloc (.cells #[.int .i64 (-1), .int .i64 256] 3)) := hB1.alloc (by omega) _
          clear hO1 hB1
          go_wp2_with fail
          refine (among_p (fun _ => True) w.heap.size ao n c _ v1.heap.size 2 _ (by omega) (by omega) HL (by omega) hcu2).mono ?_
          clear HL hcu hcu2
          rintro e v2 ⟨y, rfl, -, hcu, hgb⟩
          have hO3 := own_gb hO2 hgb (by omega)
          have hB3 := drawn_below hB2 hgb (Nat.le_refl _)
          clear hO2 hB2 hgb hcu
          obtain ⟨b3, o3, e3, g1⟩ := hO3.rd'.2.get hp0
          injection e3 with e3
          injection e3 with e31 e32
          subst e31 e32
          rw [Nat.zero_add] at g1
          generalize l.getD 0 0 = xk at g1
          have g0 : v2.frozen? ⟨g2, 0, none⟩ = false := Own.free hO3 0
          have h9 := (Own.set hO3 0 y).1
          have HO4 : Hid (Own (v2.setCell ⟨g2, 0, none⟩ (.int .i64 y)) (w.heap.size + 1) (.slice (some ⟨g2, 0, none⟩) l.length lc) (l.set 0 y)) := h9
          have HB4 : Hid (Below w.heap.size w (v2.setCell ⟨g2, 0, none⟩ (.int .i64 y))) := hB3.setCell (p := ⟨g2, 0, none⟩) (by show w.heap.size ≤ g2; omega) _
          clear hO3 hB3 h9
          go_wp2
          go_ret
          exact ⟨l.set 0 y, _, lc, by rw [List.length_set]; rfl, by rw [List.length_set]; omega, by rw [List.length_set]; exact HO4.out.mono (by omega), HB4.out⟩

/-- A table drawn, in its box, beside a cursor; the box of the answer. -/
structure GSt (w w1 wr : World) (ao : Option Addr) (n c : Nat) (M : Int) (t : TbV) (S L : Value) : Prop where
  res : X3 wr w.heap.size (.int .i64 0) (.slice none 0 0) (.slice none 0 0)
  bx : X3 wr w1.heap.size (.int .i64 t.s) S L
  tb : OwnTb wr (w.heap.size + 2) w1.heap.size S L t
  cu : Cur wr (w.heap.size + 1) ao n c M
  bl : Below w.heap.size w wr
  cl : CodeLt ao n (w.heap.size + 2)
  h1 : w.heap.size + 2 ≤ w1.heap.size
  sz : w1.heap.size + 1 ≤ wr.heap.size
theorem GSt.turn {w w1 wr wr' : World} {ao : Option Addr} {n c : Nat} {M M' : Int} {t : TbV} {S L : Value} (h : GSt w w1 wr ao n c M t S L) (hc : Cur wr' (w.heap.size + 1) ao n c M') (hg : GB (w.heap.size + 1) wr wr') : GSt w w1 wr' ao n c M' t S L :=
  ⟨x3_gb h.res hg (by omega), x3_gb h.bx hg (by have := h.h1; omega), h.tb.gb hg (by omega), hc, drawn_below h.bl hg (by omega), h.cl, h.h1, Nat.le_trans h.sz hg.size⟩
theorem GSt.low {w w1 wr wr' : World} {ao : Option Addr} {n c : Nat} {M : Int} {t : TbV} {S L : Value} (h : GSt w w1 wr ao n c M t S L) (hb : Below (w1.heap.size + 1) wr wr') : GSt w w1 wr' ao n c M t S L :=
  ⟨x3_low h.res hb (by have := h.h1; omega), x3_low h.bx hb (by omega), ownTb_low h.tb hb (by omega), cur_low h.cu hb (h.cl.mono (by have := h.h1; omega)) (by have := h.h1; omega), h.bl.trans (hb.mono (by have := h.h1; omega)), h.cl, h.h1, Nat.le_trans h.sz hb.size⟩
theorem GSt.more {w w1 wr : World} {ao : Option Addr} {n c : Nat} {M M' : Int} {t : TbV} {S L : Value} (h : GSt w w1 wr ao n c M t S L) (hm : M ≤ M') : GSt w w1 wr ao n c M' t S L := ⟨h.res, h.bx, h.tb, h.cu.mono hm, h.bl, h.cl, h.h1, h.sz⟩

set_option maxHeartbeats 4000000 in
theorem drawTog_c (ao : Option Addr) (n c : Nat) (w : World) (hn : n ≤ 9223372036854775807) (h : CodeOk w w.heap.size ao n) :
    Calls Try.prog 20 #[.slice ao n c] w fun e w' => ∃ (t : TbV) (sa : Option Addr) (sc : Nat) (la : Option Addr) (lc : Nat) (l : List Int) (a' : Option Addr) (c' : Nat), e = .returned (.tuple #[.agg #[.int .i64 t.s, .slice sa t.ps.length sc, .slice la t.cs.length lc], .slice a' l.length c']) ∧ (0 ≤ t.s ∧ t.s ≤ 7) ∧ RdT w' sa t.ps.length sc la t.cs.length lc t ∧ SmallTb t ∧ l.length ≤ 8 ∧ Own w' w.heap.size (.slice a' l.length c') l ∧ Below w.heap.size w w' := by
  have hsz : (w.alloc (.cells #[.int .i64 0, .slice none 0 0, .slice none 0 0] 26)).heap.size = w.heap.size + 1 := by simp
  have B0 : Below w.heap.size w (w.alloc (.cells #[.int .i64 0, .slice none 0 0, .slice none 0 0] 26)) := balloc w _
  have C0 := cur_new (w := (w.alloc (.cells #[.int .i64 0, .slice none 0 0, .slice none 0 0] 26))) (c := c) 53 hn (h.later B0 (by omega))
  rw [hsz] at C0
  have B1 : Below w.heap.size w ((w.alloc (.cells #[.int .i64 0, .slice none 0 0, .slice none 0 0] 26)).alloc (.cells #[.slice ao n c, .int .i64 0, .int .u64 0] 53)) := B0.alloc (by omega) _
  have hsz2 : ((w.alloc (.cells #[.int .i64 0, .slice none 0 0, .slice none 0 0] 26)).alloc (.cells #[.slice ao n c, .int .i64 0, .int .u64 0] 53)).heap.size = w.heap.size + 2 := by simp
  have HCL : Hid (CodeLt ao n (w.heap.size + 2)) := by have h9 := C0.codeLt; rw [hsz2] at h9; exact h9
  have R0 : X3 ((w.alloc (.cells #[.int .i64 0, .slice none 0 0, .slice none 0 0] 26)).alloc (.cells #[.slice ao n c, .int .i64 0, .int .u64 0] 53)) w.heap.size (.int .i64 0) (.slice none 0 0) (.slice none 0 0) := (x3_new w _ _ _ _ _ rfl).later (balloc _ _)
  clear h B0
  go_enter Try.func20, Try.ntmps20
  go_wp2_with fail
  refine (table_c (w.heap.size + 1) ao n c _ _ (by omega) C0).mono ?_
  rintro e w1 ⟨t, sa, sc, la, lc, rfl, hts, hsm, htb, hcu, hg⟩
  have HSM : Hid (SmallTb t) := hsm
  have R1 := x3_gb R0 hg (by omega)
  have B2 := drawn_below B1 hg (by omega)
  have hs1 : w.heap.size + 2 ≤ w1.heap.size := by have := hg.size; omega
  have T1 := htb.mono (lo' := w.heap.size + 2) (by omega) (Nat.le_refl _)
  obtain ⟨hs0, hs7⟩ := hts
  obtain ⟨sN, hsN⟩ : ∃ k : Nat, t.s = k := ⟨t.s.toNat, by omega⟩
  have HG1 : Hid (GSt w w1 (w1.alloc (.cells #[.int .i64 t.s, .slice sa t.ps.length sc, .slice la t.cs.length lc] 26)) ao n c 400 t (.slice sa t.ps.length sc) (.slice la t.cs.length lc)) := ⟨R1.later (balloc w1 _), x3_new w1 _ _ _ _ _ rfl, T1.later (balloc w1 _), (hcu.mono (by omega)).alloc _, B2.alloc (by omega) _, HCL.out, hs1, by simp⟩
  have HSN : Hid (t.s = sN) := hsN
  have hsn7 : sN ≤ 7 := by omega
  clear R0 B1 C0 hg htb hsm hsz hsz2 R1 B2 hcu T1 hsN hs0 hs7
  obtain ⟨W, hW⟩ : ∃ D, w1.alloc (.cells #[.int .i64 t.s, .slice sa t.ps.length sc, .slice la t.cs.length lc] 26) = D := ⟨_, rfl⟩
  have HW : Hid (w1.alloc (.cells #[.int .i64 t.s, .slice sa t.ps.length sc, .slice la t.cs.length lc] 26) = W) := hW
  rw [hW] at HG1
  clear hW
  obtain ⟨⟨b0, b1, b2⟩, bz⟩ := id HG1.out.bx
  go_wp2_with fail
  try rw [HW.out]
  clear HW
  refine (pick_c (w.heap.size + 1) ao n c _ 9 W (by omega) (by omega) HG1.out.cu).mono ?_
  rintro e w2 ⟨z, rfl, hz0, hz1, hcu, hgb⟩
  have HG2 : Hid (GSt w w1 w2 ao n c 402 t (.slice sa t.ps.length sc) (.slice la t.cs.length lc)) := (HG1.out.turn hcu hgb).more (by omega)
  clear HG1 hcu hgb b0 b1 b2 bz
  have hq0 : 0 ≤ z / 8 ∧ z / 8 ≤ 1 := by omega
  obtain ⟨q0, hq⟩ : ∃ q0 : Nat, z / 8 = q0 := ⟨(z / 8).toNat, by omega⟩
  have hq1 : q0 ≤ 1 := by omega
  have HQ : Hid (z / 8 = q0) := hq
  clear hq
  go_wp2
  go_loopw [6, 7] (fun lv sv wr => ∃ (k : Nat) (l : List Int) (la' : Option Addr) (lc' : Nat), k ≤ sN + 1 ∧ lv = .slice la' l.length lc' ∧ sv = .int .i64 (k : Int) ∧ l.length ≤ k ∧ Hid (Own wr (w1.heap.size + 1) (.slice la' l.length lc') l) ∧ Hid (GSt w w1 wr ao n c (402 + 2 * (k : Int)) t (.slice sa t.ps.length sc) (.slice la t.cs.length lc))) (fun _ sv _ => sN - (intOf sv).toNat)
  case atStart => exact ⟨q0, [], none, 0, by omega, rfl, by rw [HQ.out], by simp, World.ownsRow_nil _ _ _ _, HG2.out.more (by omega)⟩
  case round =>
    obtain ⟨k, l, la', lc', hk, rfl, rfl, hll, HO, HG⟩ := hrel
    obtain ⟨⟨b0, b1, b2⟩, bz⟩ := id HG.out.bx
    rw [HSN.out] at b0
    by_cases hlt : k < sN
    · have hki : (k : Int) < (sN : Int) := by omega
      go_wp2_with fail
      refine (pick_c (w.heap.size + 1) ao n c _ 256 wr (by omega) (by omega) HG.out.cu).mono ?_
      clear b0 b1 b2 bz
      rintro e v1 ⟨y, rfl, hy0, hy1, hcu, hgb⟩
      have hh1 := HG.out.h1
      have hO1 := own_gb HO.out hgb (by omega)
      have hG1 := HG.out.turn hcu hgb
      clear HO HG hgb hcu
      obtain ⟨g2, cap2, v2, hrun, how, hgr, hgg, hglt⟩ := push1_run v1 (w1.heap.size + 1) _ l y hO1 (by omega) hG1.sz
      have hbl := push_below hO1 hG1.sz hgr
      have hlen : (l ++ [y]).length = l.length + 1 := by simp
      have HO2 : Hid (Own v2 (w1.heap.size + 1) (.slice (some ⟨g2, 0, none⟩) (l.length + 1) cap2) (l ++ [y])) := how
      have HG3 : Hid (GSt w w1 v2 ao n c _ t (.slice sa t.ps.length sc) (.slice la t.cs.length lc)) := hG1.low hbl
      clear hO1 hG1 how hgr hgg hglt hbl
      go_wp2_with (at_builtin; refine Lib.wpList_append_run _ rfl _ _ _ _ rfl _ _ rfl rfl _ _ (hrun _) ?_; clear hrun)
      go_roundw
      case rel => exact ⟨k + 1, l ++ [y], some ⟨g2, 0, none⟩, cap2, by omega, by rw [hlen], by go_num, by rw [hlen]; omega, by rw [hlen]; exact HO2, HG3.out.more (by omega)⟩
      case measure => simp [intOf]; omega
    · have hki : ¬ (k : Int) < (sN : Int) := by omega
      obtain ⟨⟨e0, e1, e2⟩, ez⟩ := id HG.out.res
      obtain ⟨⟨d0, d1, d2⟩, dz⟩ := id (((HG.out.res.set0 (.int .i64 sN)).set1 (.slice sa t.ps.length sc)).set2 (.slice la t.cs.length lc))
      have hh1 := HG.out.h1
      have hb9 : Below w.heap.size wr (((wr.setCell ⟨w.heap.size, 0, none⟩ (.int .i64 sN)).setCell ⟨w.heap.size, 1, none⟩ (.slice sa t.ps.length sc)).setCell ⟨w.heap.size, 2, none⟩ (.slice la t.cs.length lc)) := ((below_set _ _ _ _).setCell (p := ⟨w.heap.size, 1, none⟩) (Nat.le_refl _) _).setCell (p := ⟨w.heap.size, 2, none⟩) (Nat.le_refl _) _
      have HB : Hid (Below w.heap.size w (((wr.setCell ⟨w.heap.size, 0, none⟩ (.int .i64 sN)).setCell ⟨w.heap.size, 1, none⟩ (.slice sa t.ps.length sc)).setCell ⟨w.heap.size, 2, none⟩ (.slice la t.cs.length lc))) := HG.out.bl.trans hb9
      have HT : Hid (OwnTb (((wr.setCell ⟨w.heap.size, 0, none⟩ (.int .i64 sN)).setCell ⟨w.heap.size, 1, none⟩ (.slice sa t.ps.length sc)).setCell ⟨w.heap.size, 2, none⟩ (.slice la t.cs.length lc)) (w.heap.size + 2) w1.heap.size (.slice sa t.ps.length sc) (.slice la t.cs.length lc) t) := ((HG.out.tb.set (by omega) _).set (by omega) _).set (by omega) _
      have HO9 : Hid (Own (((wr.setCell ⟨w.heap.size, 0, none⟩ (.int .i64 sN)).setCell ⟨w.heap.size, 1, none⟩ (.slice sa t.ps.length sc)).setCell ⟨w.heap.size, 2, none⟩ (.slice la t.cs.length lc)) (w1.heap.size + 1) (.slice la' l.length lc') l) := ((HO.out.setBox (by omega) _).setBox (by omega) _).setBox (by omega) _
      clear hb9 dz HG HO
      go_wp2
      refine bodyPost_ret (v := .tuple #[.agg #[.int .i64 sN, .slice sa t.ps.length sc, .slice la t.cs.length lc], .slice la' l.length lc']) (by simp [results, Try.results20, go_sem, d0, d1, d2]; try rfl) rfl ?_
      exact ⟨t, sa, sc, la, lc, l, la', lc', by rw [HSN.out], by rw [HSN.out]; omega, rdT_of HSM.out HT.out.rd, HSM.out, by omega, HO9.out.mono (by omega), HB.out⟩

end Go.Proofs.Ytbjpkklonjlmiaa
