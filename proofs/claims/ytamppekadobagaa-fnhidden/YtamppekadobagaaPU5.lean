/- Chapter 5: parts as both sides test them. -/
import Derived.Test.YtamppekadobagaaPT5
namespace Go.Proofs.Ytamppekadobagaa
set_option linter.unusedVariables false
set_option linter.unusedSimpArgs false
open Go.RowKit

/-- Parts as they are tested. -/
def partsB (l : List (Int × Int)) : Bool := placesB (fsts l) && allIn 0 1498 (snds l)
def pI (p : F × F) : Int × Int := (vI p.1, vI p.2)
def pIs (fl : List (F × F)) : List (Int × Int) := fl.map pI
theorem pIs_length (fl : List (F × F)) : (pIs fl).length = fl.length := by simp [pIs]
theorem fsts_pIs (fl : List (F × F)) : fsts (pIs fl) = vIs (fl.map Prod.fst) := by simp [fsts, pIs, vIs, pI, Function.comp_def]
theorem snds_pIs (fl : List (F × F)) : snds (pIs fl) = vIs (fl.map Prod.snd) := by simp [snds, pIs, vIs, pI, Function.comp_def]
theorem pIs_getD (fl : List (F × F)) (j : Nat) (h : j < fl.length) : (pIs fl).getD j (0, 0) = pI (fl.getD j (0, 0)) := by simp [pIs, List.getD, h]
theorem pI_inj {p q : F × F} (h : pI p = pI q) : p = q := by
  unfold pI at h
  simp only [Prod.mk.injEq] at h
  exact Prod.ext (vI_inj h.1) (vI_inj h.2)
theorem pairs_ext {A B : Type} : ∀ {l m : List (A × B)}, l.map Prod.fst = m.map Prod.fst → l.map Prod.snd = m.map Prod.snd → l = m
  | [], [], _, _ => rfl
  | [], _ :: _, h, _ => by simp at h
  | _ :: _, [], h, _ => by simp at h
  | p :: l, q :: m, h1, h2 => by
    simp only [List.map_cons, List.cons.injEq] at h1 h2
    rw [pairs_ext h1.2 h2.2, Prod.ext h1.1 h2.1]
/-- Parts over the field: unlike places, none nought, 1 up to 8. -/
def GoodP (fl : List (F × F)) : Prop := (fl.map Prod.fst).Nodup ∧ (∀ p ∈ fl, p.1 ≠ 0) ∧ 1 ≤ fl.length ∧ fl.length ≤ 8
theorem partsB_parts {l : List (Int × Int)} (h : partsB l = true) : ∃ fl : List (F × F), l = pIs fl ∧ GoodP fl := by
  unfold partsB at h
  rw [Bool.and_eq_true] at h
  obtain ⟨fs, e1, h1, h2, h3, h4⟩ := placesB_parts h.1
  have e2 := allIn_vIs h.2
  have hl1 : fs.length = l.length := by have := congrArg List.length e1; rw [fsts_length, vIs_length] at this; exact this.symm
  have hl2 : ((snds l).map toF).length = l.length := by rw [List.length_map, snds_length]
  have hm1 : (fs.zip ((snds l).map toF)).map Prod.fst = fs := List.map_fst_zip (by omega)
  have hm2 : (fs.zip ((snds l).map toF)).map Prod.snd = (snds l).map toF := List.map_snd_zip (by omega)
  refine ⟨fs.zip ((snds l).map toF), ?_, ?_, ?_, ?_, ?_⟩
  · refine pairs_ext ?_ ?_
    · show fsts l = fsts _
      rw [fsts_pIs, hm1, e1]
    · show snds l = snds _
      rw [snds_pIs, hm2]; exact e2
  · rw [hm1]; exact h1
  · intro p hp
    exact h2 p.1 (by rw [← hm1]; exact List.mem_map_of_mem hp)
  · rw [List.length_zip]; omega
  · rw [List.length_zip]; omega

set_option maxHeartbeats 1000000 in
theorem l5Parts_c (ao : Option Addr) (n c : Nat) (l : List (Int × Int)) (w : World) (hx : l.length = n) (hn : n ≤ 8796093022208) (hr : RdP w ao l) :
    Calls Try.prog 67 #[.slice ao n c] w fun e w' => e = .returned (.bool (partsB l)) ∧ Below w.heap.size w w' := by
  have hS := l5Split_c ao n c l w hx hn hr
  have HX : Hid (l.length = n) := hx
  unfold partsB
  generalize hP : placesB (fsts l) = P
  generalize hA : allIn 0 1498 (snds l) = A
  have HP : Hid (placesB (fsts l) = P) := hP
  have HA : Hid (allIn 0 1498 (snds l) = A) := hA
  clear hx hr hP hA
  go_enter Try.func67, Try.ntmps67
  go_wp2_with fail
  refine hS.mono ?_
  clear hS
  rintro e w1 ⟨a1, c1, a2, c2, rfl, ho1, ho2, hb⟩
  have hXs : ∀ wx, wx = w1 → _ := fun wx (h : wx = w1) => l5Xs_c a1 n c1 (fsts l) wx (by rw [fsts_length]; exact HX.out) (by omega) ho1.cap (by rw [h]; exact ho1.rd'.2)
  rw [HP.out] at hXs
  have hAl : ∀ wx, wx = w1 → _ := fun wx (h : wx = w1) => l1All_c a2 n c2 0 1498 (snds l) wx (by rw [snds_length]; exact HX.out) (by omega) (by rw [h]; exact ho2.rd'.2)
  rw [HA.out] at hAl
  have HB : Hid (Below w.heap.size w w1) := hb
  clear hb ho1 ho2 HP HA
  go_wp2_with fail
  refine (hXs _ rfl).mono ?_
  clear hXs
  rintro e w' ⟨rfl, hw⟩
  subst w'
  cases P with
  | true =>
    go_wp2_with fail
    refine (hAl _ rfl).mono ?_
    clear hAl
    rintro e w' ⟨rfl, hw⟩
    subst w'
    go_wp2
    go_ret
    exact ⟨by simp, HB.out⟩
  | false =>
    clear hAl
    go_wp2
    go_ret
    exact ⟨by simp, HB.out⟩

set_option maxHeartbeats 1000000 in
theorem areParts_at (b o n c : Nat) (l : List (Int × Int)) (w : World) (hx : l.length = n) (hn : n ≤ 8796093022208) (h0 : n ≠ 0)
    (hc : ∀ j, j < n → w.cell? ⟨b, o + j * 2, none⟩ = some (.int .i64 (l.getD j (0, 0)).1) ∧ w.cell? ⟨b, o + j * 2 + 1, none⟩ = some (.int .i64 (l.getD j (0, 0)).2)) :
    Calls Try.prog 57 #[.slice (some ⟨b, o, none⟩) n c] w fun e w' => e = .returned (.bool (partsB l)) ∧ Below w.heap.size w w' := by
  have HX : Hid (l.length = n) := hx
  have HXS : Hid ((snds l).length = n) := by show _ = _; rw [snds_length]; exact hx
  have HC : Hid (∀ j, j < n → w.cell? ⟨b, o + j * 2, none⟩ = some (.int .i64 (l.getD j (0, 0)).1) ∧ w.cell? ⟨b, o + j * 2 + 1, none⟩ = some (.int .i64 (l.getD j (0, 0)).2)) := hc
  have HRD : Hid (RdP w (some ⟨b, o, none⟩) l) := Or.inr ⟨b, o, rfl, by rw [hx]; exact hc⟩
  unfold partsB
  obtain ⟨A, hA⟩ : ∃ A, A = allIn 0 1498 (snds l) := ⟨_, rfl⟩
  rw [← hA]
  have HG : Hid (A = allIn 0 1498 ((snds l).drop 0)) := by show _ = _; simpa using hA
  clear hx hc hA
  go_enter Try.func57, Try.ntmps57
  go_wp2
  go_loopw [7] (fun i wr => ∃ k : Nat, k ≤ n ∧ i = .int .i64 k ∧ Hid (A = allIn 0 1498 ((snds l).drop k)) ∧ Hid (Below w.heap.size w wr)) (fun i _ => n - (intOf i).toNat)
  case atStart => exact ⟨0, Nat.zero_le _, rfl, HG, Below.refl _ _⟩
  case round =>
    clear HG
    obtain ⟨k, hk, rfl, hG, hB⟩ := hrel
    by_cases hlt : k < n
    · have q1 := HC.out k hlt
      have bx := World.block_lt_of_cell? w _ q1.1
      have g1 : wr.cell? ⟨b, o + k * 2, none⟩ = some (.int .i64 (l.getD k (0, 0)).1) := by rw [hB.out.cell (p := ⟨b, o + k * 2, none⟩) bx]; exact q1.1
      have g2 : wr.cell? ⟨b, o + k * 2 + 1, none⟩ = some (.int .i64 (l.getD k (0, 0)).2) := by rw [hB.out.cell (p := ⟨b, o + k * 2 + 1, none⟩) bx]; exact q1.2
      have hy : (snds l).getD k 0 = (l.getD k (0, 0)).2 := by simp [snds, List.getD, show k < l.length by rw [HX.out]; exact hlt]
      have HS : Hid (A = (inB 0 1498 (l.getD k (0, 0)).2 && allIn 0 1498 ((snds l).drop (k + 1)))) := allIn_step HXS.out hlt hy hG.out
      generalize (l.getD k (0, 0)).1 = x at *
      generalize (l.getD k (0, 0)).2 = y at *
      have HB1 : Hid (Below w.heap.size w (wr.alloc (.cells #[.int .i64 x, .int .i64 y] 46))) := hB.out.alloc hB.out.size _
      clear q1 bx hy hG
      have hi' := isSmall_c y
      unfold smallB at hi'
      by_cases hin : 0 ≤ y ∧ y ≤ 1498
      · rw [decide_eq_true hin] at hi'
        have HN : Hid (A = allIn 0 1498 ((snds l).drop (k + 1))) := by
          show A = _
          have := HS.out
          rw [inB, decide_eq_true hin] at this
          simpa using this
        clear hin HS
        go_wp2_with fail
        refine (hi' _).mono ?_
        clear hi'
        rintro e w' ⟨rfl, hw⟩
        subst w'
        go_wp2
        go_roundw
        case rel => exact ⟨k + 1, by omega, by go_num, HN, HB1⟩
        case measure => simp [intOf]; omega
      · rw [decide_eq_false hin] at hi'
        have hA : A = false := by rw [HS.out, inB, decide_eq_false hin]; rfl
        subst hA
        clear hin HS
        go_wp2_with fail
        refine (hi' _).mono ?_
        clear hi'
        rintro e w' ⟨rfl, hw⟩
        subst w'
        go_wp2
        go_ret
        exact ⟨by simp, HB1.out⟩
    · have hA' : A = true := allIn_end HXS.out hlt hG.out
      clear hG
      subst hA'
      have hpl := placesIn_c (some ⟨b, o, none⟩) n c l wr HX.out hn (HRD.out.later hB.out)
      go_wp2_with fail
      refine hpl.mono ?_
      clear hpl
      rintro e w1 ⟨a1, c1, rfl, ho1, hb⟩
      have HB1 : Hid (Below w.heap.size w w1) := hB.out.trans (hb.mono hB.out.size)
      have hap := arePlaces_c a1 n c1 (fsts l) w1 (by rw [fsts_length]; exact HX.out) (by omega) ho1.cap ho1.rd'.2
      clear hb ho1
      obtain ⟨P, hP⟩ : ∃ P, P = placesB (fsts l) := ⟨_, rfl⟩
      rw [← hP] at hap
      have HPE : Hid (P = placesB (fsts l)) := hP
      clear hP
      go_wp2_with fail
      refine hap.mono ?_
      clear hap
      rintro e w' ⟨rfl, hw⟩
      subst w'
      go_wp2
      go_ret
      exact ⟨by rw [← HPE.out]; simp, HB1.out⟩

theorem areParts_nil (ao : Option Addr) (c : Nat) (w : World) :
    Calls Try.prog 57 #[.slice ao 0 c] w fun e w' => e = .returned (.bool false) ∧ Below w.heap.size w w' := by
  have hpl := placesIn_nil ao c w
  have hap := arePlaces_no none 0 0 w (by omega) (by omega)
  go_enter Try.func57, Try.ntmps57
  go_wp2
  refine wp_loop_rounds 1 ?_
  rw [rounds_succ]
  go_wp2_with fail
  refine hpl.mono ?_
  clear hpl
  rintro e w' ⟨rfl, hw⟩
  subst w'
  go_wp2_with fail
  refine hap.mono ?_
  clear hap
  rintro e w' ⟨rfl, hw⟩
  subst w'
  go_wp2
  go_ret
  exact ⟨rfl, Below.refl _ _⟩

theorem areParts_c (ao : Option Addr) (n c : Nat) (l : List (Int × Int)) (w : World) (hx : l.length = n) (hn : n ≤ 8796093022208) (hr : RdP w ao l) :
    Calls Try.prog 57 #[.slice ao n c] w fun e w' => e = .returned (.bool (partsB l)) ∧ Below w.heap.size w w' := by
  by_cases h0 : n = 0
  · subst h0
    have : partsB l = false := by unfold partsB placesB; rw [fsts_length, hx, decide_eq_false (by omega), Bool.false_and, Bool.false_and]
    rw [this]
    exact areParts_nil ao c w
  · obtain ⟨b, o, rfl, hc⟩ := hr.at hx h0
    exact areParts_at b o n c l w hx hn h0 hc

end Go.Proofs.Ytamppekadobagaa
