/- divideRows: the quotient and the rest of two rows, bit by bit: the walk. -/
import Derived.Test.YtaedplfihjfchaaDoorDivSl
namespace Go.Proofs.YtaedplfihjfchaaDoor
set_option linter.unusedVariables false
set_option maxRecDepth 1000000
set_option linter.unusedSimpArgs false
open Go.RowKit

set_option maxHeartbeats 4000000 in
set_option maxRecDepth 1000000 in
theorem divideRows_c (a0 a1 a2 a3 a4 a5 b0 b1 b2 b3 b4 b5 : Int) (w : World) (da : Digs [a0, a1, a2, a3, a4, a5]) (db : Digs [b0, b1, b2, b3, b4, b5]) (hB : 0 < val [b0, b1, b2, b3, b4, b5]) :
    Calls Tryd.prog 34 #[.agg #[.int .i64 a0, .int .i64 a1, .int .i64 a2, .int .i64 a3, .int .i64 a4, .int .i64 a5], .agg #[.int .i64 b0, .int .i64 b1, .int .i64 b2, .int .i64 b3, .int .i64 b4, .int .i64 b5]] w fun e w' => ∃ q0 q1 q2 q3 q4 q5 r0 r1 r2 r3 r4 r5 : Int, e = .returned (.tuple #[.agg #[.int .i64 q0, .int .i64 q1, .int .i64 q2, .int .i64 q3, .int .i64 q4, .int .i64 q5], .agg #[.int .i64 r0, .int .i64 r1, .int .i64 r2, .int .i64 r3, .int .i64 r4, .int .i64 r5]]) ∧ Hid (Digs [q0, q1, q2, q3, q4, q5] ∧ Digs [r0, r1, r2, r3, r4, r5] ∧ val [q0, q1, q2, q3, q4, q5] = val [a0, a1, a2, a3, a4, a5] / val [b0, b1, b2, b3, b4, b5] ∧ val [r0, r1, r2, r3, r4, r5] = val [a0, a1, a2, a3, a4, a5] % val [b0, b1, b2, b3, b4, b5]) ∧ Below w.heap.size w w' := by
  obtain ⟨LA, hLA⟩ : ∃ LA, [a0, a1, a2, a3, a4, a5] = LA := ⟨_, rfl⟩
  obtain ⟨LB, hLB⟩ : ∃ LB, [b0, b1, b2, b3, b4, b5] = LB := ⟨_, rfl⟩
  have hla6 : LA.length = 6 := by rw [← hLA]; rfl
  have HLA : Hid ([a0, a1, a2, a3, a4, a5] = LA) := hLA
  have HLB : Hid ([b0, b1, b2, b3, b4, b5] = LB) := hLB
  rw [hLA] at da
  rw [hLB] at db hB
  have HDA : Hid (Digs LA ∧ LA.length = 6) := ⟨da, hla6⟩
  have HDB : Hid (Digs LB ∧ 0 < val LB) := ⟨db, hB⟩
  have HTOP : Hid (hiV LA 96 = 0) := by have := hiV_top LA; rw [hla6] at this; exact this
  have HVA : Hid (val LA < 79228162514264337593543950336) := val_lt6 da (by omega)
  rw [hLA, hLB]
  clear da db hB hla6 hLA hLB
  go_enter Tryd.func34, Tryd.ntmps34
  go_wp2
  have HD0 : Hid (DS w ((((((w.alloc (Obj.cells #[.int .i64 a0, .int .i64 a1, .int .i64 a2, .int .i64 a3, .int .i64 a4, .int .i64 a5] 53)).alloc (Obj.cells #[.int .i64 b0, .int .i64 b1, .int .i64 b2, .int .i64 b3, .int .i64 b4, .int .i64 b5] 53)).alloc (Obj.cells #[.int .i64 0, .int .i64 0, .int .i64 0, .int .i64 0, .int .i64 0, .int .i64 0] 53)).alloc (Obj.cells #[.int .i64 0, .int .i64 0, .int .i64 0, .int .i64 0, .int .i64 0, .int .i64 0] 53)).alloc (Obj.cells #[.int .i64 0, .int .i64 0, .int .i64 0, .int .i64 0, .int .i64 0, .int .i64 0] 53)).alloc (Obj.cells #[.int .i64 0, .int .i64 0, .int .i64 0, .int .i64 0, .int .i64 0, .int .i64 0] 53)) LA LB [0, 0, 0, 0, 0, 0] [0, 0, 0, 0, 0, 0]) := by rw [← HLA.out, ← HLB.out]; exact ds_start a0 a1 a2 a3 a4 a5 b0 b1 b2 b3 b4 b5 w
  generalize (((((w.alloc (Obj.cells #[.int .i64 a0, .int .i64 a1, .int .i64 a2, .int .i64 a3, .int .i64 a4, .int .i64 a5] 53)).alloc (Obj.cells #[.int .i64 b0, .int .i64 b1, .int .i64 b2, .int .i64 b3, .int .i64 b4, .int .i64 b5] 53)).alloc (Obj.cells #[.int .i64 0, .int .i64 0, .int .i64 0, .int .i64 0, .int .i64 0, .int .i64 0] 53)).alloc (Obj.cells #[.int .i64 0, .int .i64 0, .int .i64 0, .int .i64 0, .int .i64 0, .int .i64 0] 53)).alloc (Obj.cells #[.int .i64 0, .int .i64 0, .int .i64 0, .int .i64 0, .int .i64 0, .int .i64 0] 53)).alloc (Obj.cells #[.int .i64 0, .int .i64 0, .int .i64 0, .int .i64 0, .int .i64 0, .int .i64 0] 53) = w0 at HD0 ⊢
  go_loopg [8] 96 (fun g s8 wx => ∃ (O R : List Int) (i : Int), g ≤ 96 ∧ s8 = .int .i64 i ∧ i + 1 = g ∧ Hid (OQ O g (hiV LA g / val LB)) ∧ Hid (R.length = 6 ∧ Digs R ∧ val R = hiV LA g % val LB) ∧ Hid (DS w wx LA LB O R))
  case atStart =>
    refine ⟨[0, 0, 0, 0, 0, 0], [0, 0, 0, 0, 0, 0], 95, Nat.le_refl _, rfl, by omega, ?_, ?_, HD0⟩
    · show OQ _ _ _
      rw [HTOP.out, Int.zero_ediv]
      exact oq_top
    · refine ⟨rfl, digs_replicate 6, ?_⟩
      rw [HTOP.out, Int.zero_emod]
      rfl
  case round =>
    obtain ⟨O, R, i, hg, rfl, hig, HO, HR, HD⟩ := hrel
    rcases gk with _ | k
    · obtain rfl : i = -1 := by omega
      have hh := hiV_zero LA
      rw [hh] at HO HR
      obtain ⟨q0, q1, q2, q3, q4, q5, hq⟩ := list6 HO.out.1
      obtain ⟨r0, r1, r2, r3, r4, r5, hr⟩ := list6 HR.out.1
      subst hq hr
      obtain ⟨x0, x1, x2, x3, x4, x5⟩ := HD.out.o.cells6
      obtain ⟨y0, y1, y2, y3, y4, y5⟩ := HD.out.r.cells6
      obtain ⟨u0, u1, u2, u3, u4, u5⟩ := HD.out.z1.free6
      obtain ⟨v0, v1, v2, v3, v4, v5⟩ := HD.out.z2.free6
      obtain ⟨m0, m1, m2, m3, m4, m5⟩ := HD.out.z1.cells6
      obtain ⟨n0, n1, n2, n3, n4, n5⟩ := HD.out.z2.cells6
      clear hh hig
      have HFIN : Hid (Digs [q0, q1, q2, q3, q4, q5] ∧ Digs [r0, r1, r2, r3, r4, r5] ∧ val [q0, q1, q2, q3, q4, q5] = val LA / val LB ∧ val [r0, r1, r2, r3, r4, r5] = val LA % val LB) := ⟨HO.out.2.1, HR.out.2.1, oq_end HO.out, HR.out.2.2⟩
      have HBF : Hid (Below w.heap.size w wr) := HD.out.below
      clear HO HR HD HDA HDB HVA HTOP HLA HLB hg
      go_wp2_with fail
      go_region
      all_goals go_wp2
      all_goals refine bodyPost_ret (v := .tuple #[.agg #[.int .i64 q0, .int .i64 q1, .int .i64 q2, .int .i64 q3, .int .i64 q4, .int .i64 q5], .agg #[.int .i64 r0, .int .i64 r1, .int .i64 r2, .int .i64 r3, .int .i64 r4, .int .i64 r5]]) (by simp [results, Tryd.results34, go_sem, *]) rfl ⟨q0, q1, q2, q3, q4, q5, r0, r1, r2, r3, r4, r5, rfl, HFIN, ?_⟩
      all_goals first | exact (below_set6 (below_set6 HBF.out (by omega)) (by omega)).drew | exact below_set6 (below_set6 HBF.out (by omega)) (by omega)
    · obtain rfl : i = (k : Int) := by push_cast at hig; omega
      clear hig
      have k0 : (0 : Int) ≤ (k : Int) := by omega
      have k95 : (k : Int) ≤ 95 := by omega
      have hst := hiV_step HDA.out.1 k
      have hbv := bitV_bd LA k
      have hnn := hiV_nonneg HDA.out.1 (k + 1)
      have hle := hiV_le HDA.out.1 k
      obtain ⟨db, hB0⟩ := HDB.out
      have hva := HVA.out
      obtain ⟨V, hV⟩ : ∃ V, hiV LA (k + 1) = V := ⟨_, rfl⟩
      obtain ⟨BB, hBB⟩ : ∃ BB, val LB = BB := ⟨_, rfl⟩
      obtain ⟨bt, hbt⟩ : ∃ bt, bitV LA k = bt := ⟨_, rfl⟩
      rw [hV, hbt] at hst
      rw [hV] at hnn HO HR
      rw [hBB] at HO HR hB0
      rw [hbt] at hbv
      obtain ⟨hbt0, hbt1⟩ := hbv
      have hr0 := Int.emod_nonneg V (show BB ≠ 0 by omega)
      have hq0 : 0 ≤ V / BB := Int.ediv_nonneg hnn (by omega)
      have hrv : V % BB ≤ V := by
        have h1 := Int.emod_add_mul_ediv V BB
        have h2 := Int.mul_nonneg (show 0 ≤ BB by omega) hq0
        omega
      have HRM : Hid (2 * (V % BB) + bt < 79228162514264337593543950336) := by show _ < _; omega
      have HBT : Hid (LA.getD (k / 16) 0 / 2 ^ (k % 16) % 2 = bt) := hbt
      have HST : Hid (hiV LA k = 2 * V + bt) := hst
      have HBB : Hid (val LB = BB ∧ 0 < BB) := ⟨hBB, hB0⟩
      clear hst hnn hle db hB0 hva hV hBB hbt hr0 hq0 hrv
      obtain ⟨r0, r1, r2, r3, r4, r5, hr⟩ := list6 HR.out.1
      subst hr
      have y := HD.out.r.cells6
      obtain ⟨y0, y1, y2, y3, y4, y5⟩ := y
      go_wp2_with fail
      refine (addRows_c r0 r1 r2 r3 r4 r5 r0 r1 r2 r3 r4 r5 _ HR.out.2.1 HR.out.2.1).mono ?_
      rintro e w1 ⟨s0, s1, s2, s3, s4, s5, cy, rfl, HE, hb⟩
      clear y0 y1 y2 y3 y4 y5
      have HS : Hid (Digs [s0, s1, s2, s3, s4, s5] ∧ val [s0, s1, s2, s3, s4, s5] = 2 * (V % BB)) := by
        obtain ⟨e1, e2, e3⟩ := add_same rfl HR.out.2.1 HE.out (by have := HRM.out; rw [HR.out.2.2]; omega)
        exact ⟨e2, by rw [e3, HR.out.2.2]⟩
      have HD1 : Hid (DS w w1 LA LB O [r0, r1, r2, r3, r4, r5]) := HD.out.later hb
      clear HD hb HE HR
      have y := HD1.out.r.cells6
      obtain ⟨y0, y1, y2, y3, y4, y5⟩ := y
      have y := HD1.out.r.free6
      obtain ⟨z0, z1, z2, z3, z4, z5⟩ := y
      go_upto_region 7 with fail
      have HD2 : Hid (DS w ((((((w1.setCell ⟨(w.heap.size + 1 + 1 + 1 + 1 + 1), 0, none⟩ (.int .i64 s0)).setCell ⟨(w.heap.size + 1 + 1 + 1 + 1 + 1), 1, none⟩ (.int .i64 s1)).setCell ⟨(w.heap.size + 1 + 1 + 1 + 1 + 1), 2, none⟩ (.int .i64 s2)).setCell ⟨(w.heap.size + 1 + 1 + 1 + 1 + 1), 3, none⟩ (.int .i64 s3)).setCell ⟨(w.heap.size + 1 + 1 + 1 + 1 + 1), 4, none⟩ (.int .i64 s4)).setCell ⟨(w.heap.size + 1 + 1 + 1 + 1 + 1), 5, none⟩ (.int .i64 s5)) LA LB O [s0, s1, s2, s3, s4, s5]) := HD1.out.setR6 s0 s1 s2 s3 s4 s5
      generalize (((((w1.setCell ⟨(w.heap.size + 1 + 1 + 1 + 1 + 1), 0, none⟩ (.int .i64 s0)).setCell ⟨(w.heap.size + 1 + 1 + 1 + 1 + 1), 1, none⟩ (.int .i64 s1)).setCell ⟨(w.heap.size + 1 + 1 + 1 + 1 + 1), 2, none⟩ (.int .i64 s2)).setCell ⟨(w.heap.size + 1 + 1 + 1 + 1 + 1), 3, none⟩ (.int .i64 s3)).setCell ⟨(w.heap.size + 1 + 1 + 1 + 1 + 1), 4, none⟩ (.int .i64 s4)).setCell ⟨(w.heap.size + 1 + 1 + 1 + 1 + 1), 5, none⟩ (.int .i64 s5) = w2 at HD2 ⊢
      clear HD1 y0 y1 y2 y3 y4 y5 z0 z1 z2 z3 z4 z5
      have q1 : w2.cell? ⟨w.heap.size, k / 16, none⟩ = some (.int .i64 (LA.getD (k / 16) 0)) := HD2.out.a.cell (k / 16) (by rw [HDA.out.2]; omega)
      generalize LA.getD (k / 16) 0 = x0 at q1 HBT
      have hk16 : k / 16 < 6 := by omega
      have q2 : w2.cell? ⟨w.heap.size, ((k : Int) / 16).toNat, none⟩ = some (.int .i64 x0) := by rw [show ((k : Int) / 16).toNat = k / 16 by omega]; exact q1
      clear q1
      have hL0 : (0 : Int) ≤ (k : Int) / 16 := by omega
      have hL1 : (k : Int) / 16 < 6 := by omega
      have hL2 : (0 : Int) ≤ (k : Int) % 16 := by omega
      have hand : bits BinOp.and IntKind.i64 (x0 / 2 ^ (k % 16)) 1 = bt := by rw [i64_and1]; exact HBT.out
      have hand2 : bits BinOp.and IntKind.i64 (x0 / 2 ^ ((k : Int) % 16).toNat) 1 = bt := by rw [show ((k : Int) % 16).toNat = k % 16 by omega]; exact hand
      have y0 := HD2.out.r.cell 0 (by simp)
      simp only [List.getD_cons_zero] at y0
      have z0 := HD2.out.r.free 0
      obtain ⟨s00, s01, HS3a, HS3b⟩ := bump rfl HS.out.1 HS.out.2 hbt0 hbt1
      have HS3 : Hid (Digs [s0 + bt, s1, s2, s3, s4, s5] ∧ val [s0 + bt, s1, s2, s3, s4, s5] = 2 * (V % BB) + bt) := ⟨HS3a, HS3b⟩
      clear HS3a HS3b HS
      have hwr : IntKind.i64.wrap (s0 + bt) = s0 + bt := by rw [IntKind.wrap_i64]; omega
      refine wp_region_held_drew (S := (fun w' => w'.cell? ⟨w.heap.size, ((k : Int) / 16).toNat, none⟩ = some (.int .i64 x0))) (by kernel_rfl) ?_ (fun hHeld => ?_)
      · exact q2
      refine takeV (i := 0) (oi := _) (v := ?_) (d := some 25) rfl (by kernel_rfl) (by kernel_rfl) (by kernel_rfl) (by kernel_rfl) (fun _ _ _ h => h) (Or.inl ⟨by rfl, ?_⟩) (by assumption) ?_
      rotate_left
      · (intro w hSw; (try dsimp only at hSw); go_simp <;> with_reducible rfl)
      try simp only [Act.put, List.setIfInBounds_toArray, List.set_cons_zero, List.set_cons_succ]
      refine takeV (i := 2) (oi := _) (v := ?_) (d := some 27) rfl (by kernel_rfl) (by kernel_rfl) (by kernel_rfl) (by kernel_rfl) (fun _ _ _ h => h) (Or.inl ⟨by rfl, ?_⟩) (by assumption) ?_
      rotate_left
      · (intro w hSw; (try dsimp only at hSw); go_simp <;> with_reducible rfl)
      try simp only [Act.put, List.setIfInBounds_toArray, List.set_cons_zero, List.set_cons_succ]
      refine takeV (i := 3) (oi := _) (v := ?_) (d := some 28) rfl (by kernel_rfl) (by kernel_rfl) (by kernel_rfl) (by kernel_rfl) (fun _ _ _ h => h) (Or.inl ⟨by rfl, ?_⟩) (by assumption) ?_
      rotate_left
      · (intro w hSw; (try dsimp only at hSw); go_simp <;> with_reducible rfl)
      try simp only [Act.put, List.setIfInBounds_toArray, List.set_cons_zero, List.set_cons_succ]
      refine takeV (i := 4) (oi := _) (v := ?_) (d := some 29) rfl (by kernel_rfl) (by kernel_rfl) (by kernel_rfl) (by kernel_rfl) (fun _ _ _ h => h) (Or.inl ⟨by rfl, ?_⟩) (by assumption) ?_
      rotate_left
      · (intro w hSw; (try dsimp only at hSw); go_simp <;> with_reducible rfl)
      try simp only [Act.put, List.setIfInBounds_toArray, List.set_cons_zero, List.set_cons_succ]
      refine takeV (i := 5) (oi := _) (v := ?_) (d := some 30) rfl (by kernel_rfl) (by kernel_rfl) (by kernel_rfl) (by kernel_rfl) (fun _ _ _ h => h) (Or.inl ⟨by rfl, ?_⟩) (by assumption) ?_
      rotate_left
      · (intro w hSw; (try dsimp only at hSw); go_simp <;> with_reducible rfl)
      try simp only [Act.put, List.setIfInBounds_toArray, List.set_cons_zero, List.set_cons_succ]
      refine takeV (i := 6) (oi := _) (v := ?_) (d := some 31) rfl (by kernel_rfl) (by kernel_rfl) (by kernel_rfl) (by kernel_rfl) (fun _ _ _ h => h) (Or.inl ⟨by rfl, ?_⟩) (by assumption) ?_
      rotate_left
      · (intro w hSw; (try dsimp only at hSw); go_simp <;> with_reducible rfl)
      try simp only [Act.put, List.setIfInBounds_toArray, List.set_cons_zero, List.set_cons_succ]
      refine takeV (i := 7) (oi := _) (v := ?_) (d := some 32) rfl (by kernel_rfl) (by kernel_rfl) (by kernel_rfl) (by kernel_rfl) (fun _ _ _ h => h) (Or.inl ⟨by rfl, ?_⟩) (by assumption) ?_
      rotate_left
      · (intro w hSw; (try dsimp only at hSw); go_simp <;> with_reducible rfl)
      try simp only [Act.put, List.setIfInBounds_toArray, List.set_cons_zero, List.set_cons_succ]
      refine wpAnyH_ready (rs := [1]) (by kernel_rfl) (by simp) ?_
      refine AllReadyH.cons (o := _) rfl (fun K hK => ?_) AllReadyH.nil
      go_simp
      refine hK.out _ _ ?_ (fun hHeld => ?_)
      · exact q2
      clear hK K
      try simp only [Act.put, List.setIfInBounds_toArray, List.set_cons_zero, List.set_cons_succ]
      refine takeV (i := 8) (oi := _) (v := ?_) (d := some 33) rfl (by kernel_rfl) (by kernel_rfl) (by kernel_rfl) (by kernel_rfl) (fun _ _ _ h => h) (Or.inl ⟨by rfl, ?_⟩) (by assumption) ?_
      rotate_left
      · (intro w hSw; (try dsimp only at hSw); go_simp <;> with_reducible rfl)
      try simp only [Act.put, List.setIfInBounds_toArray, List.set_cons_zero, List.set_cons_succ]
      refine takeV (i := 9) (oi := _) (v := ?_) (d := some 34) rfl (by kernel_rfl) (by kernel_rfl) (by kernel_rfl) (by kernel_rfl) (fun _ _ _ h => h) (Or.inl ⟨by rfl, ?_⟩) (by assumption) ?_
      rotate_left
      · (intro w hSw; (try dsimp only at hSw); go_simp <;> with_reducible rfl)
      try simp only [Act.put, List.setIfInBounds_toArray, List.set_cons_zero, List.set_cons_succ]
      have HD3 : Hid (DS w ((w2.setCell ⟨(w.heap.size + 1 + 1 + 1 + 1 + 1), 0, none⟩ (.int .i64 (s0 + bt))).drew) LA LB O [s0 + bt, s1, s2, s3, s4, s5]) := (HD2.out.setR 0 _).drew
      have q3 : ((w2.setCell ⟨(w.heap.size + 1 + 1 + 1 + 1 + 1), 0, none⟩ (.int .i64 (s0 + bt))).drew).cell? ⟨w.heap.size, ((k : Int) / 16).toNat, none⟩ = some (.int .i64 x0) := keep1 q2 (by omega)
      refine wpAnyH_ready (rs := [10]) (by kernel_rfl) (by simp) ?_
      refine AllReadyH.cons (o := _) rfl (fun K hK => ?_) AllReadyH.nil
      go_simp
      refine hK.out _ _ ?_ (fun hHeld => ?_)
      · exact q3
      clear hK K
      try simp only [Act.put, List.setIfInBounds_toArray, List.set_cons_zero, List.set_cons_succ]
      refine wpAnyH_done (by kernel_rfl) ?_ _
      generalize (w2.setCell ⟨(w.heap.size + 1 + 1 + 1 + 1 + 1), 0, none⟩ (.int .i64 (s0 + bt))).drew = w3 at HD3 ⊢
      clear HD2 y0 z0 q2 q3 hHeld hand hand2 HBT hwr
      have yb : OwnA 53 w3 (w.heap.size + 1) [b0, b1, b2, b3, b4, b5] := by rw [HLB.out]; exact HD3.out.b
      have ybc := yb.cells6
      obtain ⟨e0, e1, e2, e3, e4, e5⟩ := ybc
      have y := HD3.out.r.cells6
      obtain ⟨y0, y1, y2, y3, y4, y5⟩ := y
      have HVB : Hid (Digs [b0, b1, b2, b3, b4, b5] ∧ val [b0, b1, b2, b3, b4, b5] = BB) := by rw [HLB.out]; exact ⟨HDB.out.1, HBB.out.1⟩
      clear yb
      go_wp2_with fail
      refine (compareRows_c (s0 + bt) s1 s2 s3 s4 s5 b0 b1 b2 b3 b4 b5 _ HS3.out.1 HVB.out.1).mono ?_
      rw [HS3.out.2, HVB.out.2]
      rintro e w4 ⟨rfl, hb⟩
      have HD4 : Hid (DS w w4 LA LB O [s0 + bt, s1, s2, s3, s4, s5]) := HD3.out.later hb
      clear HD3 hb e0 e1 e2 e3 e4 e5 y0 y1 y2 y3 y4 y5
      obtain ⟨_, hB0⟩ := HBB.out
      by_cases hlt : 2 * (V % BB) + bt < BB
      · rw [cmpI_lt hlt]
        obtain ⟨d1, d2⟩ := div_low (b := bt) hB0 hbt0 hlt
        have HDV : Hid ((2 * V + bt) / BB = 2 * (V / BB) ∧ (2 * V + bt) % BB = 2 * (V % BB) + bt) := ⟨d1, d2⟩
        clear d1 d2 hlt
        go_wp2
        go_roundg k
        case measure => omega
        case rel =>
          refine ⟨O, [s0 + bt, s1, s2, s3, s4, s5], (k : Int) - 1, by omega, by first | rfl | go_num, by omega, ?_, ?_, HD4⟩
          · show OQ _ _ _
            rw [HST.out, HBB.out.1, HDV.out.1]
            exact oq_low HO.out
          · show _ ∧ _ ∧ _
            refine ⟨rfl, HS3.out.1, ?_⟩
            rw [HST.out, HBB.out.1, HDV.out.2]
            exact HS3.out.2
      · obtain ⟨cm, hcm, hcm0⟩ : ∃ cm, cmpI (2 * (V % BB) + bt) BB = cm ∧ (cm != -1) = true := ⟨_, rfl, by unfold cmpI; rw [if_neg hlt]; split <;> rfl⟩
        rw [hcm]
        obtain ⟨d1, d2⟩ := div_high (b := bt) hB0 hbt1 hlt
        have HDV : Hid ((2 * V + bt) / BB = 2 * (V / BB) + 1 ∧ (2 * V + bt) % BB = 2 * (V % BB) + bt - BB) := ⟨d1, d2⟩
        clear d1 d2 hcm
        obtain ⟨m0, m1, m2, m3, m4, m5, hm⟩ := list6 (L := (subC [s0 + bt, s1, s2, s3, s4, s5] [b0, b1, b2, b3, b4, b5] 0).1) (by have := (subC_spec (xs := [s0 + bt, s1, s2, s3, s4, s5]) (ys := [b0, b1, b2, b3, b4, b5]) 0 rfl HS3.out.1 HVB.out.1 (by omega) (by omega)).2.2.1; rw [this]; rfl)
        have HM : Hid ((subC [s0 + bt, s1, s2, s3, s4, s5] [b0, b1, b2, b3, b4, b5] 0).1 = [m0, m1, m2, m3, m4, m5]) := hm
        have HMD : Hid (Digs [m0, m1, m2, m3, m4, m5] ∧ val [m0, m1, m2, m3, m4, m5] = 2 * (V % BB) + bt - BB) := by
          obtain ⟨f1, f2, f3⟩ := sub_same rfl rfl HS3.out.1 HVB.out.1 hm (by rw [HS3.out.2, HVB.out.2]; omega)
          exact ⟨f2, by rw [f3, HS3.out.2, HVB.out.2]⟩
        clear hm hlt
        have yb : OwnA 53 w4 (w.heap.size + 1) [b0, b1, b2, b3, b4, b5] := by rw [HLB.out]; exact HD4.out.b
        have ybc := yb.cells6
        obtain ⟨e0, e1, e2, e3, e4, e5⟩ := ybc
        have y := HD4.out.r.cells6
        obtain ⟨y0, y1, y2, y3, y4, y5⟩ := y
        clear yb
        go_wp2_with fail
        refine (lessRow_c (s0 + bt) s1 s2 s3 s4 s5 b0 b1 b2 b3 b4 b5 _ HS3.out.1 HVB.out.1 m0 m1 m2 m3 m4 m5 HM.out).mono ?_
        rintro e w5 ⟨rfl, hb⟩
        have HD5 : Hid (DS w w5 LA LB O [s0 + bt, s1, s2, s3, s4, s5]) := HD4.out.later hb
        clear HD4 hb e0 e1 e2 e3 e4 e5 y0 y1 y2 y3 y4 y5
        have y := HD5.out.r.cells6
        obtain ⟨y0, y1, y2, y3, y4, y5⟩ := y
        have y := HD5.out.r.free6
        obtain ⟨z0, z1, z2, z3, z4, z5⟩ := y
        go_upto_region 10 with fail
        have HD6 : Hid (DS w ((((((w5.setCell ⟨(w.heap.size + 1 + 1 + 1 + 1 + 1), 0, none⟩ (.int .i64 m0)).setCell ⟨(w.heap.size + 1 + 1 + 1 + 1 + 1), 1, none⟩ (.int .i64 m1)).setCell ⟨(w.heap.size + 1 + 1 + 1 + 1 + 1), 2, none⟩ (.int .i64 m2)).setCell ⟨(w.heap.size + 1 + 1 + 1 + 1 + 1), 3, none⟩ (.int .i64 m3)).setCell ⟨(w.heap.size + 1 + 1 + 1 + 1 + 1), 4, none⟩ (.int .i64 m4)).setCell ⟨(w.heap.size + 1 + 1 + 1 + 1 + 1), 5, none⟩ (.int .i64 m5)) LA LB O [m0, m1, m2, m3, m4, m5]) := HD5.out.setR6 m0 m1 m2 m3 m4 m5
        generalize (((((w5.setCell ⟨(w.heap.size + 1 + 1 + 1 + 1 + 1), 0, none⟩ (.int .i64 m0)).setCell ⟨(w.heap.size + 1 + 1 + 1 + 1 + 1), 1, none⟩ (.int .i64 m1)).setCell ⟨(w.heap.size + 1 + 1 + 1 + 1 + 1), 2, none⟩ (.int .i64 m2)).setCell ⟨(w.heap.size + 1 + 1 + 1 + 1 + 1), 3, none⟩ (.int .i64 m3)).setCell ⟨(w.heap.size + 1 + 1 + 1 + 1 + 1), 4, none⟩ (.int .i64 m4)).setCell ⟨(w.heap.size + 1 + 1 + 1 + 1 + 1), 5, none⟩ (.int .i64 m5) = w6 at HD6 ⊢
        clear HD5 y0 y1 y2 y3 y4 y5 z0 z1 z2 z3 z4 z5
        have q1 : w6.cell? ⟨(w.heap.size + 1 + 1 + 1 + 1), k / 16, none⟩ = some (.int .i64 (O.getD (k / 16) 0)) := HD6.out.o.cell (k / 16) (by rw [HO.out.1]; omega)
        have z1 := HD6.out.o.free ((k : Int) / 16).toNat
        have HRO := oq_room HO.out
        obtain ⟨ro0, ro1, _⟩ := HRO
        have HOH : Hid (OQ (O.set (k / 16) (O.getD (k / 16) 0 + 2 ^ (k % 16))) k (2 * (V / BB) + 1)) := oq_high (by omega) HO.out
        have hv0 := (HO.out.2.1.getD (k / 16)).1
        generalize O.getD (k / 16) 0 = v0 at q1 ro0 ro1 HOH hv0
        have q2 : w6.cell? ⟨(w.heap.size + 1 + 1 + 1 + 1), ((k : Int) / 16).toNat, none⟩ = some (.int .i64 v0) := by rw [show ((k : Int) / 16).toNat = k / 16 by omega]; exact q1
        clear q1
        obtain ⟨pw, hpw⟩ : ∃ pw, (2 : Int) ^ (k % 16) = pw := ⟨_, rfl⟩
        rw [hpw] at ro0 ro1 HOH
        have hpw0 : 0 < pw := by rw [← hpw]; exact Int.pow_pos (by omega)
        have hsh : IntKind.i64.wrap (2 ^ ((k : Int) % 16).toNat) = pw := by rw [show ((k : Int) % 16).toNat = k % 16 by omega, hpw, IntKind.wrap_i64]; omega
        have hwr : IntKind.i64.wrap (v0 + pw) = v0 + pw := by rw [IntKind.wrap_i64]; omega
        clear hpw
        refine wp_region_held_drew (S := (fun _ => True)) (by kernel_rfl) ?_ (fun hHeld => ?_)
        · trivial
        refine takeV (i := 0) (oi := _) (v := ?_) (d := some 42) rfl (by kernel_rfl) (by kernel_rfl) (by kernel_rfl) (by kernel_rfl) (fun _ _ _ h => h) (Or.inl ⟨by rfl, ?_⟩) (by assumption) ?_
        rotate_left
        · (intro w hSw; (try dsimp only at hSw); go_simp <;> with_reducible rfl)
        try simp only [Act.put, List.setIfInBounds_toArray, List.set_cons_zero, List.set_cons_succ]
        refine takeV (i := 1) (oi := _) (v := ?_) (d := some 43) rfl (by kernel_rfl) (by kernel_rfl) (by kernel_rfl) (by kernel_rfl) (fun _ _ _ h => h) (Or.inl ⟨by rfl, ?_⟩) (by assumption) ?_
        rotate_left
        · (intro w hSw; (try dsimp only at hSw); go_simp <;> with_reducible rfl)
        try simp only [Act.put, List.setIfInBounds_toArray, List.set_cons_zero, List.set_cons_succ]
        refine takeV (i := 3) (oi := _) (v := ?_) (d := some 45) rfl (by kernel_rfl) (by kernel_rfl) (by kernel_rfl) (by kernel_rfl) (fun _ _ _ h => h) (Or.inl ⟨by rfl, ?_⟩) (by assumption) ?_
        rotate_left
        · (intro w hSw; (try dsimp only at hSw); go_simp <;> with_reducible rfl)
        try simp only [Act.put, List.setIfInBounds_toArray, List.set_cons_zero, List.set_cons_succ]
        refine takeV (i := 4) (oi := _) (v := ?_) (d := some 46) rfl (by kernel_rfl) (by kernel_rfl) (by kernel_rfl) (by kernel_rfl) (fun _ _ _ h => h) (Or.inl ⟨by rfl, ?_⟩) (by assumption) ?_
        rotate_left
        · (intro w hSw; (try dsimp only at hSw); go_simp <;> with_reducible rfl)
        try simp only [Act.put, List.setIfInBounds_toArray, List.set_cons_zero, List.set_cons_succ]
        refine wpAnyH_ready (rs := [2]) (by kernel_rfl) (by simp) ?_
        refine AllReadyH.cons (o := _) rfl (fun K hK => ?_) AllReadyH.nil
        go_simp
        refine hK.out _ _ ?_ (fun hHeld => ?_)
        · trivial
        clear hK K
        try simp only [Act.put, List.setIfInBounds_toArray, List.set_cons_zero, List.set_cons_succ]
        refine takeV (i := 5) (oi := _) (v := ?_) (d := some 47) rfl (by kernel_rfl) (by kernel_rfl) (by kernel_rfl) (by kernel_rfl) (fun _ _ _ h => h) (Or.inl ⟨by rfl, ?_⟩) (by assumption) ?_
        rotate_left
        · (intro w hSw; (try dsimp only at hSw); go_simp <;> with_reducible rfl)
        try simp only [Act.put, List.setIfInBounds_toArray, List.set_cons_zero, List.set_cons_succ]
        refine takeV (i := 6) (oi := _) (v := ?_) (d := some 48) rfl (by kernel_rfl) (by kernel_rfl) (by kernel_rfl) (by kernel_rfl) (fun _ _ _ h => h) (Or.inl ⟨by rfl, ?_⟩) (by assumption) ?_
        rotate_left
        · (intro w hSw; (try dsimp only at hSw); go_simp <;> with_reducible rfl)
        try simp only [Act.put, List.setIfInBounds_toArray, List.set_cons_zero, List.set_cons_succ]
        have HD7 : Hid (DS w ((w6.setCell ⟨(w.heap.size + 1 + 1 + 1 + 1), ((k : Int) / 16).toNat, none⟩ (.int .i64 (v0 + pw))).drew) LA LB (O.set ((k : Int) / 16).toNat (v0 + pw)) [m0, m1, m2, m3, m4, m5]) := (HD6.out.setO ((k : Int) / 16).toNat _).drew
        refine wpAnyH_ready (rs := [7]) (by kernel_rfl) (by simp) ?_
        refine AllReadyH.cons (o := _) rfl (fun K hK => ?_) AllReadyH.nil
        go_simp
        refine hK.out _ _ ?_ (fun hHeld => ?_)
        · trivial
        clear hK K
        try simp only [Act.put, List.setIfInBounds_toArray, List.set_cons_zero, List.set_cons_succ]
        refine wpAnyH_done (by kernel_rfl) ?_ _
        generalize (w6.setCell ⟨(w.heap.size + 1 + 1 + 1 + 1), ((k : Int) / 16).toNat, none⟩ (.int .i64 (v0 + pw))).drew = w7 at HD7 ⊢
        rw [show ((k : Int) / 16).toNat = k / 16 by omega] at HD7
        clear HD6 q2 z1 hHeld hsh hwr ro0 ro1
        go_wp2
        go_roundg k
        case measure => omega
        case rel =>
          refine ⟨O.set (k / 16) (v0 + pw), [m0, m1, m2, m3, m4, m5], (k : Int) - 1, by omega, by first | rfl | go_num, by omega, ?_, ?_, HD7⟩
          · show OQ _ _ _
            rw [HST.out, HBB.out.1, HDV.out.1]
            exact HOH.out
          · show _ ∧ _ ∧ _
            refine ⟨rfl, HMD.out.1, ?_⟩
            rw [HST.out, HBB.out.1, HDV.out.2]
            exact HMD.out.2

end Go.Proofs.YtaedplfihjfchaaDoor
