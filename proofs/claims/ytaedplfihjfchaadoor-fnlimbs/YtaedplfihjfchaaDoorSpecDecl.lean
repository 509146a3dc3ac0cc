/- The contract of the specification's OfDigits. -/
import Derived.Test.YtaedplfihjfchaaDoorImplDecl
namespace Go.Proofs.YtaedplfihjfchaaDoor
set_option linter.unusedVariables false
set_option maxRecDepth 1000000
set_option linter.unusedSimpArgs false
open Go.RowKit

theorem bigL_short8 {n : Int} (h0 : 0 ≤ n) (h : n < 79228162514264337593543950336 * 79228162514264337593543950336) : (bigL n).length ≤ 100000000 := by
  have := digits_short n.toNat n 12 (by
    have e : (65536 : Int) ^ 12 = 79228162514264337593543950336 * 79228162514264337593543950336 := by decide
    rw [e]; exact h)
  unfold bigL
  omega

theorem times10_d {wr : World} {base q q1 c4 : Nat} {a4 : Option Addr} {V : Int} (hO : Own wr base (.slice a4 q c4) (bigL V)) (hq : (bigL V).length = q) (hq8 : q ≤ 100000000) (dv : Digs (bigL V)) (h1 : val (bigL V) * val [10] = V * 10) (hq1 : (bigL (V * 10)).length = q1) (nq : Nat) :
    Calls Tryd.prog 50 #[.slice a4 q c4, .slice (some ⟨wr.heap.size, 0, none⟩) 1 1] ((wr.alloc (.cells #[.int .i64 10] 3)).drewN nq) fun e w' => ∃ a' c', e = .returned (.slice a' q1 c') ∧ Own w' wr.heap.size (.slice a' q1 c') (bigL (V * 10)) ∧ Below wr.heap.size wr w' := by
  have hb : Below wr.heap.size wr ((wr.alloc (.cells #[.int .i64 10] 3)).drewN nq) := below_drewN (balloc _ _) nq
  refine (l1Times_c a4 (some ⟨wr.heap.size, 0, none⟩) q 1 c4 1 (bigL V) [10] _ hq rfl hq8 (by omega) (hO.rd'.2.later hb) (Or.inr ⟨wr.heap.size, 0, rfl, fun j hj => ?_⟩) dv (digs_cons (by omega) (by omega) digs_nil) q1 (by rw [h1]; exact hq1)).mono ?_
  · simp at hj
    subst hj
    exact cnew wr (.int .i64 10) 3
  · rw [h1]
    rintro e w' ⟨a', c', rfl, ho, hb'⟩
    exact ⟨a', c', rfl, ho.mono hb.size, hb.trans (hb'.mono hb.size)⟩

set_option maxHeartbeats 1000000 in
set_option maxRecDepth 1000000 in
theorem specDec_ok (s : ByteArray) (w : World) (h : ¬ (s.size < 1 ∨ 30 < s.size ∨ (1 < s.size ∧ (byts s).getD 0 0 = 48))) (zs : List Int) (fb : Bool) (p : Nat) (hF : digF (byts s) = (zs, fb)) (hp : zs.length = p) :
    Calls Tryd.prog 20 #[.string s] w fun e w' => ∃ a' c', e = .returned (.tuple #[.agg #[.slice a' p c'], .bool fb]) ∧ Own w' w.heap.size (.slice a' p c') zs ∧ Below w.heap.size w w' := by
  have h1 : 1 ≤ s.size := by omega
  have h2 : s.size ≤ 30 := by omega
  have HNL : Hid (¬ ((byts s).length < 1 ∨ 30 < (byts s).length ∨ (1 < (byts s).length ∧ (byts s).getD 0 0 = 48))) := by rw [byts_length]; exact h
  have HF : Hid (digF (byts s) = (zs, fb)) := hF
  have HP : Hid (zs.length = p) := hp
  have h0 : 0 < s.size := by omega
  have hde : decide ((1 : Int) ≤ (s.size : Int) ∧ (s.size : Int) ≤ 30) = true := decide_eq_true ⟨by omega, by omega⟩
  have HIN : Hid (∀ wx, Calls Tryd.prog 49 #[.int .i64 (s.size : Int), .int .i64 1, .int .i64 30] wx fun e w' => e = .returned (.bool true) ∧ w' = wx) := fun wx => by
    have := l1In_c (s.size : Int) 1 30 wx
    rw [hde] at this
    exact this
  clear hF hp hde
  by_cases hz : (byts s).getD 0 0 = 48
  · have hg1 : ¬ 1 < s.size := fun e => h (Or.inr (Or.inr ⟨e, hz⟩))
    have h6 : ((s[0].toNat : Int) == 48) = true := by rw [← byts_getD s 0 (by omega), hz]; rfl
    clear h hz
    go_enter Tryd.func20, Tryd.ntmps20
    go_wp2_with fail
    refine (HIN.out _).mono ?_
    rintro e w1 ⟨rfl, hw⟩
    subst w1
    go_wp2
    clear h6
    go_loopw [4, 5] (fun lv iv wr => ∃ (k : Nat), k ≤ s.size ∧ iv = .int .i64 k ∧ Hid (Own wr w.heap.size lv (bigL (decV ((byts s).take k)))) ∧ Hid (DigAll ((byts s).take k)) ∧ wr.cell? ⟨w.heap.size, 0, none⟩ = some (.slice none 0 0) ∧ wr.frozen? ⟨w.heap.size, 0, none⟩ = false ∧ Hid (w.heap.size < wr.heap.size ∧ ∀ q, lv.ownBlock = some q → w.heap.size < q) ∧ Hid (Below w.heap.size w wr)) (fun _ iv _ => s.size - (intOf iv).toNat)
    case atStart => exact ⟨0, by omega, rfl, World.ownsRow_nil _ _ _ _, fun c hc => by simp at hc, by simp, by simp, ⟨by simp, fun q hq => by simp [Value.ownBlock] at hq⟩, balloc _ _⟩
    case round =>
      obtain ⟨k, hk, rfl, hO, hDG, cR, fR, hL, hB⟩ := hrel
      obtain ⟨V, hVd⟩ : ∃ V, decV ((byts s).take k) = V := ⟨_, rfl⟩
      have hbd := decV_bd (l := byts s) k (by rw [byts_length]; exact hk) hDG.out
      have hp30 := pow10_30 (k := k) (by omega)
      rw [hVd] at hO hbd
      obtain ⟨q, hq⟩ : ∃ q, (bigL V).length = q := ⟨_, rfl⟩
      obtain ⟨a4, c4, hv⟩ := hO.out.shape
      rw [hq] at hv
      subst hv
      have HV : Hid (decV ((byts s).take k) = V ∧ 0 ≤ V ∧ V < 1000000000000000000000000000000) := ⟨hVd, hbd.1, by omega⟩
      have HQ : Hid ((bigL V).length = q) := hq
      have hq8 : q ≤ 100000000 := by rw [← hq]; exact bigL_short8 hbd.1 (by omega)
      clear hVd hbd hp30 hq
      by_cases hlt : k < s.size
      · have HBK : Hid ((byts s).getD k 0 = (s[k].toNat : Int)) := byts_getD s k hlt
        go_wp2
        · have hdg : ¬ (48 ≤ (s[k].toNat : Int) ∧ (s[k].toNat : Int) ≤ 57) := by
            have : (s[k].toNat : Int) < 48 ∨ 57 < (s[k].toNat : Int) := by assumption
            omega
          obtain ⟨rfl, rfl, rfl⟩ := dec_none (digF_bad (k := k) (by rw [byts_length]; exact hlt) (by rw [HBK.out]; exact hdg)) HF.out HP.out
          refine bodyPost_ret (v := .tuple #[.agg #[.slice none 0 0], .bool false]) (by simp [results, Tryd.results20, go_sem, cR]) rfl ⟨none, 0, rfl, World.ownsRow_nil _ _ _ _, hB.out.setCell (by simp) _⟩
        · have hdg : 48 ≤ (s[k].toNat : Int) ∧ (s[k].toNat : Int) ≤ 57 := by assumption
          have HWE : Hid ((IntKind.i64.wrap (IntKind.u8.wrap ((s[k].toNat : Int) - 48))) = (s[k].toNat : Int) - 48) := wrap_dig hdg
          have HW : Hid (0 ≤ (IntKind.i64.wrap (IntKind.u8.wrap ((s[k].toNat : Int) - 48))) ∧ (IntKind.i64.wrap (IntKind.u8.wrap ((s[k].toNat : Int) - 48))) ≤ 9) := by rw [HWE.out]; exact ⟨by omega, by omega⟩
          have b0 := bigL_spec HV.out.2.1
          have b1 := bigL_spec HW.out.1
          have hv1 : val (bigL V) * val [10] = V * 10 := by rw [b0.2.1]; rfl
          have b2 := bigL_spec (n := V * 10) (by have := HV.out.2.1; omega)
          have hv2 : val (bigL (V * 10)) + val (bigL (IntKind.i64.wrap (IntKind.u8.wrap ((s[k].toNat : Int) - 48)))) = decV ((byts s).take (k + 1)) := by
            rw [b2.2.1, b1.2.1, HWE.out, decV_succ (by rw [byts_length]; exact hlt), HBK.out, HV.out.1]; omega
          obtain ⟨q1, hq1⟩ : ∃ q1, (bigL (V * 10)).length = q1 := ⟨_, rfl⟩
          obtain ⟨q2, hq2⟩ : ∃ q2, (bigL (IntKind.i64.wrap (IntKind.u8.wrap ((s[k].toNat : Int) - 48)))).length = q2 := ⟨_, rfl⟩
          obtain ⟨q3, hq3⟩ : ∃ q3, (bigL (decV ((byts s).take (k + 1)))).length = q3 := ⟨_, rfl⟩
          have hq18 : q1 ≤ 100000000 := by rw [← hq1]; exact bigL_short8 (by have := HV.out.2.1; omega) (by have := HV.out.2.2; omega)
          have hq28 : q2 ≤ 100000000 := by rw [← hq2]; exact bigL_short8 HW.out.1 (by have := HW.out.2; omega)
          have HD : Hid (Digs (bigL V) ∧ Digs (bigL (V * 10)) ∧ Digs (bigL (IntKind.i64.wrap (IntKind.u8.wrap ((s[k].toNat : Int) - 48)))) ∧ Digs [10]) := ⟨b0.1, b2.1, b1.1, digs_cons (by omega) (by omega) digs_nil⟩
          have H1 : Hid (val (bigL V) * val [10] = V * 10) := hv1
          have H2 : Hid (val (bigL (V * 10)) + val (bigL (IntKind.i64.wrap (IntKind.u8.wrap ((s[k].toNat : Int) - 48)))) = decV ((byts s).take (k + 1))) := hv2
          have HQ1 : Hid ((bigL (V * 10)).length = q1) := hq1
          have HQ2 : Hid ((bigL (IntKind.i64.wrap (IntKind.u8.wrap ((s[k].toNat : Int) - 48)))).length = q2) := hq2
          have HQ3 : Hid ((bigL (decV ((byts s).take (k + 1)))).length = q3) := hq3
          have HDG1 : Hid (DigAll ((byts s).take (k + 1))) := digAll_take_succ hDG.out (by rw [byts_length]; exact hlt) (by rw [HBK.out]; exact hdg)
          clear hdg b0 b1 b2 hv1 hv2 hq1 hq2 hq3
          go_region_with (first | (go_at_call 50; refine (times10_d hO.out HQ.out hq8 HD.out.1 H1.out HQ1.out _).mono ?_; rintro e w3 ⟨a5, c5, rfl, ho3, hb3⟩; have cR3 : w3.cell? ⟨w.heap.size, 0, none⟩ = some (.slice none 0 0) := cell_keep (S := 0) hb3 cR; have fR3 : w3.frozen? ⟨w.heap.size, 0, none⟩ = false := fcell_keep hb3 hL.out.1 fR; have HB3 : Hid (Below w.heap.size w w3) := hB.out.trans (hb3.mono hB.out.size); have HO3 : Hid (Own w3 wr.heap.size (.slice a5 q1 c5) (bigL (V * 10))) := ho3; have z3 : wr.heap.size ≤ w3.heap.size := hb3.size; clear ho3 hb3) | (go_at_call 51; refine (l1Of_c (IntKind.i64.wrap (IntKind.u8.wrap ((s[k].toNat : Int) - 48))) _ HW.out.1 (by have := HW.out.2; omega) q2 HQ2.out).mono ?_; rintro e w4 ⟨a6, c6, rfl, ho4, hb4⟩; have cR4 : w4.cell? ⟨w.heap.size, 0, none⟩ = some (.slice none 0 0) := cell_keep (S := 0) hb4 cR3; have fR4 : w4.frozen? ⟨w.heap.size, 0, none⟩ = false := fcell_keep hb4 (World.block_lt_of_cell? _ _ cR3) fR3; have HB4 : Hid (Below w.heap.size w w4) := HB3.out.trans (hb4.mono HB3.out.size); have HO4 : Hid (Own w4 w3.heap.size (.slice a6 q2 c6) (bigL (IntKind.i64.wrap (IntKind.u8.wrap ((s[k].toNat : Int) - 48))))) := ho4; have HO34 : Hid (Own w4 wr.heap.size (.slice a5 q1 c5) (bigL (V * 10))) := HO3.out.later hb4; have z4 : w3.heap.size ≤ w4.heap.size := hb4.size; clear ho4 hb4) | (go_at_call 33; refine (l1Add_c a5 a6 q1 q2 c5 c6 (bigL (V * 10)) (bigL (IntKind.i64.wrap (IntKind.u8.wrap ((s[k].toNat : Int) - 48)))) _ HQ1.out HQ2.out (by omega) (by omega) HO34.out.rd'.2 HO4.out.rd'.2 HD.out.2.1 HD.out.2.2.1 q3 (by rw [H2.out]; exact HQ3.out)).mono ?_; rw [H2.out]; rintro e w5 ⟨a7, c7, rfl, ho5, hb5⟩; have cR5 : w5.cell? ⟨w.heap.size, 0, none⟩ = some (.slice none 0 0) := cell_keep (S := 0) hb5 cR4; have fR5 : w5.frozen? ⟨w.heap.size, 0, none⟩ = false := fcell_keep hb5 (World.block_lt_of_cell? _ _ cR4) fR4; have HB5 : Hid (Below w.heap.size w w5) := HB4.out.trans (hb5.mono HB4.out.size); have HO5 : Hid (Own w5 w4.heap.size (.slice a7 q3 c7) (bigL (decV ((byts s).take (k + 1))))) := ho5; have l4 : w.heap.size < w4.heap.size := World.block_lt_of_cell? _ _ cR4; have l5 : w.heap.size < w5.heap.size := World.block_lt_of_cell? _ _ cR5; clear ho5 hb5))
          all_goals go_wp2
          all_goals go_roundw
          all_goals first | exact ⟨k + 1, by omega, by go_num, HO5.out.mono (by omega), HDG1, cR5, fR5, ⟨l5, fun q' hq' => Nat.lt_of_lt_of_le l4 (World.ownsRow.lt HO5.out q' hq').1⟩, HB5⟩ | (simp [intOf]; omega)
        · have hdg : ¬ (48 ≤ (s[k].toNat : Int) ∧ (s[k].toNat : Int) ≤ 57) := by
            have : (s[k].toNat : Int) < 48 := by assumption
            omega
          obtain ⟨rfl, rfl, rfl⟩ := dec_none (digF_bad (k := k) (by rw [byts_length]; exact hlt) (by rw [HBK.out]; exact hdg)) HF.out HP.out
          refine bodyPost_ret (v := .tuple #[.agg #[.slice none 0 0], .bool false]) (by simp [results, Tryd.results20, go_sem, cR]) rfl ⟨none, 0, rfl, World.ownsRow_nil _ _ _ _, hB.out.setCell (by simp) _⟩
      · obtain rfl : k = s.size := by omega
        have hall : (byts s).take s.size = byts s := List.take_of_length_le (by rw [byts_length]; omega)
        have hT : tellF (val (bigL V)) = (zs, fb) := by
          rw [(bigL_spec HV.out.2.1).2.1, ← HV.out.1, hall, ← HF.out, digF_good HNL.out (by have := hDG.out; rwa [hall] at this)]
        have HT : Hid (tellF (val (bigL V)) = (zs, fb)) := hT
        have HDV : Hid (Digs (bigL V)) := (bigL_spec HV.out.2.1).1
        clear hall hT
        go_wp2_with fail
        refine (l1Tell_c a4 q c4 (bigL V) _ (by omega) hO.out.rdS HDV.out zs fb p HT.out HP.out).mono ?_
        rintro e w2 ⟨a', c', rfl, ho, hb⟩
        have HB2 : Hid (Below w.heap.size w w2) := hB.out.trans (hb.mono hB.out.size)
        have r2' : w2.cell? ⟨w.heap.size, 0, none⟩ = some (.slice none 0 0) := cell_keep (S := 0) hb cR
        have f2' : w2.frozen? ⟨w.heap.size, 0, none⟩ = false := fcell_keep hb hL.out.1 fR
        have HO2 : Hid (Own w2 wr.heap.size (.slice a' p c') zs) := ho
        have lw : w.heap.size < wr.heap.size := hL.out.1
        clear hb ho cR fR
        go_wp2
        refine bodyPost_ret (v := .tuple #[.agg #[.slice a' p c'], .bool fb]) (by simp [results, Tryd.results20, go_sem, r2']) rfl ⟨a', c', rfl, own_set_mono HO2.out lw (by omega), HB2.out.setCell (by simp) _⟩
  · have h6 : ((s[0].toNat : Int) == 48) = false := by rw [← byts_getD s 0 (by omega)]; simpa using hz
    clear h hz
    go_enter Tryd.func20, Tryd.ntmps20
    go_wp2_with fail
    refine (HIN.out _).mono ?_
    rintro e w1 ⟨rfl, hw⟩
    subst w1
    go_wp2
    clear h6
    go_loopw [4, 5] (fun lv iv wr => ∃ (k : Nat), k ≤ s.size ∧ iv = .int .i64 k ∧ Hid (Own wr w.heap.size lv (bigL (decV ((byts s).take k)))) ∧ Hid (DigAll ((byts s).take k)) ∧ wr.cell? ⟨w.heap.size, 0, none⟩ = some (.slice none 0 0) ∧ wr.frozen? ⟨w.heap.size, 0, none⟩ = false ∧ Hid (w.heap.size < wr.heap.size ∧ ∀ q, lv.ownBlock = some q → w.heap.size < q) ∧ Hid (Below w.heap.size w wr)) (fun _ iv _ => s.size - (intOf iv).toNat)
    case atStart => exact ⟨0, by omega, rfl, World.ownsRow_nil _ _ _ _, fun c hc => by simp at hc, by simp, by simp, ⟨by simp, fun q hq => by simp [Value.ownBlock] at hq⟩, balloc _ _⟩
    case round =>
      obtain ⟨k, hk, rfl, hO, hDG, cR, fR, hL, hB⟩ := hrel
      obtain ⟨V, hVd⟩ : ∃ V, decV ((byts s).take k) = V := ⟨_, rfl⟩
      have hbd := decV_bd (l := byts s) k (by rw [byts_length]; exact hk) hDG.out
      have hp30 := pow10_30 (k := k) (by omega)
      rw [hVd] at hO hbd
      obtain ⟨q, hq⟩ : ∃ q, (bigL V).length = q := ⟨_, rfl⟩
      obtain ⟨a4, c4, hv⟩ := hO.out.shape
      rw [hq] at hv
      subst hv
      have HV : Hid (decV ((byts s).take k) = V ∧ 0 ≤ V ∧ V < 1000000000000000000000000000000) := ⟨hVd, hbd.1, by omega⟩
      have HQ : Hid ((bigL V).length = q) := hq
      have hq8 : q ≤ 100000000 := by rw [← hq]; exact bigL_short8 hbd.1 (by omega)
      clear hVd hbd hp30 hq
      by_cases hlt : k < s.size
      · have HBK : Hid ((byts s).getD k 0 = (s[k].toNat : Int)) := byts_getD s k hlt
        go_wp2
        · have hdg : ¬ (48 ≤ (s[k].toNat : Int) ∧ (s[k].toNat : Int) ≤ 57) := by
            have : (s[k].toNat : Int) < 48 ∨ 57 < (s[k].toNat : Int) := by assumption
            omega
          obtain ⟨rfl, rfl, rfl⟩ := dec_none (digF_bad (k := k) (by rw [byts_length]; exact hlt) (by rw [HBK.out]; exact hdg)) HF.out HP.out
          refine bodyPost_ret (v := .tuple #[.agg #[.slice none 0 0], .bool false]) (by simp [results, Tryd.results20, go_sem, cR]) rfl ⟨none, 0, rfl, World.ownsRow_nil _ _ _ _, hB.out.setCell (by simp) _⟩
        · have hdg : 48 ≤ (s[k].toNat : Int) ∧ (s[k].toNat : Int) ≤ 57 := by assumption
          have HWE : Hid ((IntKind.i64.wrap (IntKind.u8.wrap ((s[k].toNat : Int) - 48))) = (s[k].toNat : Int) - 48) := wrap_dig hdg
          have HW : Hid (0 ≤ (IntKind.i64.wrap (IntKind.u8.wrap ((s[k].toNat : Int) - 48))) ∧ (IntKind.i64.wrap (IntKind.u8.wrap ((s[k].toNat : Int) - 48))) ≤ 9) := by rw [HWE.out]; exact ⟨by omega, by omega⟩
          have b0 := bigL_spec HV.out.2.1
          have b1 := bigL_spec HW.out.1
          have hv1 : val (bigL V) * val [10] = V * 10 := by rw [b0.2.1]; rfl
          have b2 := bigL_spec (n := V * 10) (by have := HV.out.2.1; omega)
          have hv2 : val (bigL (V * 10)) + val (bigL (IntKind.i64.wrap (IntKind.u8.wrap ((s[k].toNat : Int) - 48)))) = decV ((byts s).take (k + 1)) := by
            rw [b2.2.1, b1.2.1, HWE.out, decV_succ (by rw [byts_length]; exact hlt), HBK.out, HV.out.1]; omega
          obtain ⟨q1, hq1⟩ : ∃ q1, (bigL (V * 10)).length = q1 := ⟨_, rfl⟩
          obtain ⟨q2, hq2⟩ : ∃ q2, (bigL (IntKind.i64.wrap (IntKind.u8.wrap ((s[k].toNat : Int) - 48)))).length = q2 := ⟨_, rfl⟩
          obtain ⟨q3, hq3⟩ : ∃ q3, (bigL (decV ((byts s).take (k + 1)))).length = q3 := ⟨_, rfl⟩
          have hq18 : q1 ≤ 100000000 := by rw [← hq1]; exact bigL_short8 (by have := HV.out.2.1; omega) (by have := HV.out.2.2; omega)
          have hq28 : q2 ≤ 100000000 := by rw [← hq2]; exact bigL_short8 HW.out.1 (by have := HW.out.2; omega)
          have HD : Hid (Digs (bigL V) ∧ Digs (bigL (V * 10)) ∧ Digs (bigL (IntKind.i64.wrap (IntKind.u8.wrap ((s[k].toNat : Int) - 48)))) ∧ Digs [10]) := ⟨b0.1, b2.1, b1.1, digs_cons (by omega) (by omega) digs_nil⟩
          have H1 : Hid (val (bigL V) * val [10] = V * 10) := hv1
          have H2 : Hid (val (bigL (V * 10)) + val (bigL (IntKind.i64.wrap (IntKind.u8.wrap ((s[k].toNat : Int) - 48)))) = decV ((byts s).take (k + 1))) := hv2
          have HQ1 : Hid ((bigL (V * 10)).length = q1) := hq1
          have HQ2 : Hid ((bigL (IntKind.i64.wrap (IntKind.u8.wrap ((s[k].toNat : Int) - 48)))).length = q2) := hq2
          have HQ3 : Hid ((bigL (decV ((byts s).take (k + 1)))).length = q3) := hq3
          have HDG1 : Hid (DigAll ((byts s).take (k + 1))) := digAll_take_succ hDG.out (by rw [byts_length]; exact hlt) (by rw [HBK.out]; exact hdg)
          clear hdg b0 b1 b2 hv1 hv2 hq1 hq2 hq3
          go_region_with (first | (go_at_call 50; refine (times10_d hO.out HQ.out hq8 HD.out.1 H1.out HQ1.out _).mono ?_; rintro e w3 ⟨a5, c5, rfl, ho3, hb3⟩; have cR3 : w3.cell? ⟨w.heap.size, 0, none⟩ = some (.slice none 0 0) := cell_keep (S := 0) hb3 cR; have fR3 : w3.frozen? ⟨w.heap.size, 0, none⟩ = false := fcell_keep hb3 hL.out.1 fR; have HB3 : Hid (Below w.heap.size w w3) := hB.out.trans (hb3.mono hB.out.size); have HO3 : Hid (Own w3 wr.heap.size (.slice a5 q1 c5) (bigL (V * 10))) := ho3; have z3 : wr.heap.size ≤ w3.heap.size := hb3.size; clear ho3 hb3) | (go_at_call 51; refine (l1Of_c (IntKind.i64.wrap (IntKind.u8.wrap ((s[k].toNat : Int) - 48))) _ HW.out.1 (by have := HW.out.2; omega) q2 HQ2.out).mono ?_; rintro e w4 ⟨a6, c6, rfl, ho4, hb4⟩; have cR4 : w4.cell? ⟨w.heap.size, 0, none⟩ = some (.slice none 0 0) := cell_keep (S := 0) hb4 cR3; have fR4 : w4.frozen? ⟨w.heap.size, 0, none⟩ = false := fcell_keep hb4 (World.block_lt_of_cell? _ _ cR3) fR3; have HB4 : Hid (Below w.heap.size w w4) := HB3.out.trans (hb4.mono HB3.out.size); have HO4 : Hid (Own w4 w3.heap.size (.slice a6 q2 c6) (bigL (IntKind.i64.wrap (IntKind.u8.wrap ((s[k].toNat : Int) - 48))))) := ho4; have HO34 : Hid (Own w4 wr.heap.size (.slice a5 q1 c5) (bigL (V * 10))) := HO3.out.later hb4; have z4 : w3.heap.size ≤ w4.heap.size := hb4.size; clear ho4 hb4) | (go_at_call 33; refine (l1Add_c a5 a6 q1 q2 c5 c6 (bigL (V * 10)) (bigL (IntKind.i64.wrap (IntKind.u8.wrap ((s[k].toNat : Int) - 48)))) _ HQ1.out HQ2.out (by omega) (by omega) HO34.out.rd'.2 HO4.out.rd'.2 HD.out.2.1 HD.out.2.2.1 q3 (by rw [H2.out]; exact HQ3.out)).mono ?_; rw [H2.out]; rintro e w5 ⟨a7, c7, rfl, ho5, hb5⟩; have cR5 : w5.cell? ⟨w.heap.size, 0, none⟩ = some (.slice none 0 0) := cell_keep (S := 0) hb5 cR4; have fR5 : w5.frozen? ⟨w.heap.size, 0, none⟩ = false := fcell_keep hb5 (World.block_lt_of_cell? _ _ cR4) fR4; have HB5 : Hid (Below w.heap.size w w5) := HB4.out.trans (hb5.mono HB4.out.size); have HO5 : Hid (Own w5 w4.heap.size (.slice a7 q3 c7) (bigL (decV ((byts s).take (k + 1))))) := ho5; have l4 : w.heap.size < w4.heap.size := World.block_lt_of_cell? _ _ cR4; have l5 : w.heap.size < w5.heap.size := World.block_lt_of_cell? _ _ cR5; clear ho5 hb5))
          all_goals go_wp2
          all_goals go_roundw
          all_goals first | exact ⟨k + 1, by omega, by go_num, HO5.out.mono (by omega), HDG1, cR5, fR5, ⟨l5, fun q' hq' => Nat.lt_of_lt_of_le l4 (World.ownsRow.lt HO5.out q' hq').1⟩, HB5⟩ | (simp [intOf]; omega)
        · have hdg : ¬ (48 ≤ (s[k].toNat : Int) ∧ (s[k].toNat : Int) ≤ 57) := by
            have : (s[k].toNat : Int) < 48 := by assumption
            omega
          obtain ⟨rfl, rfl, rfl⟩ := dec_none (digF_bad (k := k) (by rw [byts_length]; exact hlt) (by rw [HBK.out]; exact hdg)) HF.out HP.out
          refine bodyPost_ret (v := .tuple #[.agg #[.slice none 0 0], .bool false]) (by simp [results, Tryd.results20, go_sem, cR]) rfl ⟨none, 0, rfl, World.ownsRow_nil _ _ _ _, hB.out.setCell (by simp) _⟩
      · obtain rfl : k = s.size := by omega
        have hall : (byts s).take s.size = byts s := List.take_of_length_le (by rw [byts_length]; omega)
        have hT : tellF (val (bigL V)) = (zs, fb) := by
          rw [(bigL_spec HV.out.2.1).2.1, ← HV.out.1, hall, ← HF.out, digF_good HNL.out (by have := hDG.out; rwa [hall] at this)]
        have HT : Hid (tellF (val (bigL V)) = (zs, fb)) := hT
        have HDV : Hid (Digs (bigL V)) := (bigL_spec HV.out.2.1).1
        clear hall hT
        go_wp2_with fail
        refine (l1Tell_c a4 q c4 (bigL V) _ (by omega) hO.out.rdS HDV.out zs fb p HT.out HP.out).mono ?_
        rintro e w2 ⟨a', c', rfl, ho, hb⟩
        have HB2 : Hid (Below w.heap.size w w2) := hB.out.trans (hb.mono hB.out.size)
        have r2' : w2.cell? ⟨w.heap.size, 0, none⟩ = some (.slice none 0 0) := cell_keep (S := 0) hb cR
        have f2' : w2.frozen? ⟨w.heap.size, 0, none⟩ = false := fcell_keep hb hL.out.1 fR
        have HO2 : Hid (Own w2 wr.heap.size (.slice a' p c') zs) := ho
        have lw : w.heap.size < wr.heap.size := hL.out.1
        clear hb ho cR fR
        go_wp2
        refine bodyPost_ret (v := .tuple #[.agg #[.slice a' p c'], .bool fb]) (by simp [results, Tryd.results20, go_sem, r2']) rfl ⟨a', c', rfl, own_set_mono HO2.out lw (by omega), HB2.out.setCell (by simp) _⟩

end Go.Proofs.YtaedplfihjfchaaDoor
