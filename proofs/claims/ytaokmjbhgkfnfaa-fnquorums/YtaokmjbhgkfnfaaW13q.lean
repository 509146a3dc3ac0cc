/- Chapter 13: the lists that a quorum has signed; GoodBoard, CertifiedIn, CommonHonest of the program. -/
import Derived.Test.YtaokmjbhgkfnfaaV13q
namespace Go.Proofs.Ytaokmjbhgkfnfaa
set_option linter.unusedVariables false
set_option maxRecDepth 1000000
set_option linter.unusedSimpArgs false
open Go.RowKit

def certX (n N q : Nat) (xss : List (List Int)) : List Int := upto n fun x => decide (q ≤ (sgnX N xss (x : Nat)).length)

set_option maxHeartbeats 2000000 in
theorem certified_c (f : Int) (la : Option Addr) (ln lc : Nat) (ga : Option Addr) (N : Nat) (li : List Int) (xss : List (List Int)) (Q : Nat) (w : World) (h0 : 0 ≤ f) (h2 : f ≤ 2) (hQ : 2 * f + 1 = (Q : Int)) (hl : li.length = ln) (hln : ln ≤ 1000) (hrl : Rd w la li) (hR : Ris ltI li) (hx : xss.length = N) (hN : N ≤ 7) (hr : RdII w ga xss) (hRR : ∀ l ∈ xss, Ris ltI l) (hlen : ∀ l ∈ xss, l.length ≤ 1000) :
  Calls Try.prog 65 #[.agg #[.int .i64 f, .slice la ln lc, .slice ga N N]] w fun e w' => ∃ a' n' c', e = .returned (.slice a' n' c') ∧ Own w' w.heap.size (.slice a' n' c') (certX 10 N Q xss) ∧ Below w.heap.size w w' := by
 have hB := balloc w (.cells #[.int .i64 f, .slice la ln lc, .slice ga N N] 97)
 have hC := x3_new w (.int .i64 f) (.slice la ln lc) (.slice ga N N) 97 w.heap.size rfl
 obtain ⟨V, hV⟩ : ∃ V, w.alloc (.cells #[.int .i64 f, .slice la ln lc, .slice ga N N] 97) = V := ⟨_, rfl⟩
 rw [hV] at hB hC
 have HB0 : Hid (Below w.heap.size w V) := hB
 have HC : Hid (X3 V w.heap.size (.int .i64 f) (.slice la ln lc) (.slice ga N N)) := hC
 have HRL : Hid (∀ wx, Below V.heap.size V wx → Rd wx la li) := fun wx h => (hrl.later hB).later h
 have HRX : Hid (∀ wx, Below V.heap.size V wx → RdII wx ga xss) := fun wx h => (hr.later hB).later h
 have HL : Hid (li.length = ln) := hl
 have HX : Hid (xss.length = N) := hx
 have HRI : Hid (Ris ltI li) := hR
 have HRS : Hid (∀ l ∈ xss, Ris ltI l) := hRR
 have HLN : Hid (∀ l ∈ xss, l.length ≤ 1000) := hlen
 obtain ⟨⟨g0, g1, g2⟩, _⟩ := hC
 clear hB hl hrl hR hx hr hRR hlen
 have hVS : w.heap.size ≤ V.heap.size := HB0.out.size
 have HVS : Hid (w.heap.size ≤ V.heap.size) := hVS
 have HQQ : Hid (∀ wx, Calls Try.prog 82 #[.agg #[.int .i64 f, .slice la ln lc]] wx fun e w' => e = .returned (.int .i64 (Q : Int)) ∧ Below wx.heap.size wx w') := fun wx => by have := quorum_c f (.slice la ln lc) wx h0 h2; rw [hQ] at this; exact this
 clear hVS h0 h2 hQ
 go_enter Try.func65, Try.ntmps65
 go_wp2
 clear hV g0 g1 g2
 go_loopw [3, 5] (fun lv iv wr => ∃ (k : Nat) (a' : Option Addr) (n' c' : Nat), k ≤ 10 ∧ iv = .int .i64 k ∧ lv = .slice a' n' c' ∧ Hid (Own wr V.heap.size (.slice a' n' c') (certX k N Q xss)) ∧ Hid (Below V.heap.size V wr)) (fun _ iv _ => 10 - (intOf iv).toNat)
 case atStart => exact ⟨0, none, 0, 0, Nat.zero_le _, rfl, rfl, World.ownsRow_nil _ _ _ _, Below.refl _ _⟩
 case round =>
  obtain ⟨k, a', n', c', hk, rfl, rfl, HO, HB⟩ := hrel
  by_cases hlt : k < 10
  ·have k0 : (0 : Int) ≤ (k : Int) := by omega
   have k1 : (k : Int) < 10 := by omega
   have hnk : n' ≤ k := by rw [← HO.out.rd'.1]; exact upto_len _ _
   have HSC : Hid (∀ b, decide (Q ≤ (sgnX N xss (k : Nat)).length) = b → certX (k + 1) N Q xss = certX k N Q xss ++ (if b = true then [(k : Int)] else [])) := fun b h => by unfold certX; rw [upto_succ, h]
   have HQS : Hid (∀ wx, Below V.heap.size V wx → Calls Try.prog 101 #[.agg #[.int .i64 f, .slice la ln lc, .slice ga N N], .int .i64 (k : Int)] wx fun e w' => e = .returned (.int .i64 ((sgnX N xss (k : Nat)).length : Nat)) ∧ Below wx.heap.size wx w') := fun wx h => signersOf_c f la ln lc ga N li xss (k : Int) wx HL.out hln (HRL.out _ h) HRI.out HX.out hN (HRX.out _ h) HRS.out HLN.out
   generalize (sgnX N xss (k : Nat)).length = cnt at HSC HQS
   by_cases hz : Q ≤ cnt
   ·have HN : Hid (certX (k + 1) N Q xss = certX k N Q xss ++ [(k : Int)]) := by show _ = _; rw [HSC.out _ (decide_eq_true hz)]; simp
    have hz2 : (cnt : Int) ≥ (Q : Int) := by omega
    clear HSC hz
    go_wp2_with fail
    refine wp_region_held_drew (S := (fun X => X.cell? ⟨w.heap.size, 0, none⟩ = some (.int .i64 f) ∧ X.cell? ⟨w.heap.size, 1, none⟩ = some (.slice la ln lc) ∧ X.cell? ⟨w.heap.size, 2, none⟩ = some (.slice ga N N))) (by kernel_rfl) ?_ (fun hHeld => ?_)
    ·exact (HC.out.later (HB.out.trans ((Below.refl _ _).drew.mono HB.out.size))).1
    obtain ⟨D0, hD0⟩ : ∃ D, wr.drew = D := ⟨_, rfl⟩
    have hb0 : Below wr.heap.size wr D0 := by rw [← hD0]; exact (Below.refl _ _).drew
    rw [hD0] at hHeld ⊢
    have HD0 : Hid (Below wr.heap.size wr D0) := hb0
    clear hb0 hD0
    have HV0 : Hid (Below V.heap.size V D0) := HB.out.trans (HD0.out.mono HB.out.size)
    refine takeV13 (i := 0) (oi := _) (v := ?_) (d := some 8) rfl (by kernel_rfl) (by kernel_rfl) (by kernel_rfl) (by kernel_rfl) (fun _ _ _ h => h) (Or.inl ⟨by rfl, ?_⟩) (by assumption) ?_
    rotate_left
    ·(intro w hSw; (try dsimp only at hSw); go_simp <;> with_reducible rfl)
    try simp only [Act.put, zsA, zsB, zsC]
    refine takeV13 (i := 1) (oi := _) (v := ?_) (d := some 9) rfl (by kernel_rfl) (by kernel_rfl) (by kernel_rfl) (by kernel_rfl) (fun _ _ _ h => h) (Or.inl ⟨by rfl, ?_⟩) (by assumption) ?_
    rotate_left
    ·(intro w hSw; (try dsimp only at hSw); go_simp <;> with_reducible rfl)
    try simp only [Act.put, zsA, zsB, zsC]
    refine takeV13 (i := 3) (oi := _) (v := ?_) (d := some 11) rfl (by kernel_rfl) (by kernel_rfl) (by kernel_rfl) (by kernel_rfl) (fun _ _ _ h => h) (Or.inl ⟨by rfl, ?_⟩) (by assumption) ?_
    rotate_left
    ·(intro w hSw; (try dsimp only at hSw); go_simp <;> with_reducible rfl)
    try simp only [Act.put, zsA, zsB, zsC]
    refine takeV13 (i := 4) (oi := _) (v := ?_) (d := some 12) rfl (by kernel_rfl) (by kernel_rfl) (by kernel_rfl) (by kernel_rfl) (fun _ _ _ h => h) (Or.inl ⟨by rfl, ?_⟩) (by assumption) ?_
    rotate_left
    ·(intro w hSw; (try dsimp only at hSw); go_simp <;> with_reducible rfl)
    try simp only [Act.put, zsA, zsB, zsC]
    refine wpAnyH_ready (rs := [2]) (by kernel_rfl) (by simp) ?_
    refine AllReadyH.cons (o := _) rfl (fun K hK => ?_) AllReadyH.nil
    go_simp
    refine (HQS.out _ HV0.out).mono ?_
    rintro e D1 ⟨rfl, hb⟩
    have HD1 : Hid (Below wr.heap.size wr D1) := HD0.out.trans (hb.mono HD0.out.size)
    clear hb HD0 HV0
    refine hK.out _ _ ?_ (fun hHeld => ?_)
    ·exact (HC.out.later (HB.out.trans (HD1.out.mono HB.out.size))).1
    clear hK K
    try simp only [Act.put, zsA, zsB, zsC]
    refine wpAnyH_ready (rs := [5]) (by kernel_rfl) (by simp) ?_
    refine AllReadyH.cons (o := _) rfl (fun K hK => ?_) AllReadyH.nil
    go_simp
    refine (HQQ.out _).mono ?_
    rintro e D2 ⟨rfl, hb⟩
    have HD2 : Hid (Below wr.heap.size wr D2) := HD1.out.trans (hb.mono HD1.out.size)
    clear hb HD1
    refine hK.out _ _ ?_ (fun hHeld => ?_)
    ·exact (HC.out.later (HB.out.trans (HD2.out.mono HB.out.size))).1
    clear hK K
    try simp only [Act.put, zsA, zsB, zsC]
    refine takeV13 (i := 6) (oi := _) (v := ?_) (d := some 14) rfl (by kernel_rfl) (by kernel_rfl) (by kernel_rfl) (by kernel_rfl) (fun _ _ _ h => h) (Or.inl ⟨by rfl, ?_⟩) (by assumption) ?_
    rotate_left
    ·(intro w hSw; (try dsimp only at hSw); go_simp <;> with_reducible rfl)
    try simp only [Act.put, zsA, zsB, zsC]
    refine wpAnyH_done (by kernel_rfl) ?_ _
    clear hHeld
    have hVB : V.heap.size ≤ D2.heap.size := Nat.le_trans HB.out.size HD2.out.size
    have hbL := balloc D2 (.cells #[.int .i64 (k : Int)] 3)
    have hLit := litI D2 (k : Int)
    have hOL := (HO.out.later HD2.out).later hbL
    obtain ⟨v', w6, r1, o1, gg, b1⟩ := appendI_run (D2.alloc (.cells #[.int .i64 (k : Int)] 3)) V.heap.size (.slice a' n' c') (certX k N Q xss) [(k : Int)] (some ⟨D2.heap.size, 0, none⟩) 1 1 hOL hLit rfl (fun e => by cases e) (by rw [HO.out.rd'.1]; omega) (Nat.le_trans hVB hbL.size)
    have HB6 : Hid (Below V.heap.size V w6) := (HB.out.trans ((HD2.out.trans (hbL.mono HD2.out.size)).mono HB.out.size)).trans b1
    rw [← HN.out] at o1
    obtain ⟨a6, c6, hv6⟩ := o1.shape
    subst hv6
    have HO6 : Hid (Own w6 V.heap.size (.slice a6 (certX (k + 1) N Q xss).length c6) (certX (k + 1) N Q xss)) := o1
    clear o1 gg b1 hbL hLit hOL hVB HD2 HN
    go_wp2_with (first | (at_builtin; refine Lib.wpList_append_run _ rfl _ _ _ _ rfl _ _ rfl rfl _ _ (r1 _) ?_; clear r1))
    exact ⟨⟨k + 1, a6, _, c6, by omega, by go_num, rfl, HO6, HB6⟩, by simp [intOf]; omega⟩
   ·have HN : Hid (certX (k + 1) N Q xss = certX k N Q xss) := by show _ = _; rw [HSC.out _ (decide_eq_false hz)]; simp
    have hz2 : ¬ (cnt : Int) ≥ (Q : Int) := by omega
    clear HSC hz
    go_wp2_with fail
    refine wp_region_held_drew (S := (fun X => X.cell? ⟨w.heap.size, 0, none⟩ = some (.int .i64 f) ∧ X.cell? ⟨w.heap.size, 1, none⟩ = some (.slice la ln lc) ∧ X.cell? ⟨w.heap.size, 2, none⟩ = some (.slice ga N N))) (by kernel_rfl) ?_ (fun hHeld => ?_)
    ·exact (HC.out.later (HB.out.trans ((Below.refl _ _).drew.mono HB.out.size))).1
    obtain ⟨D0, hD0⟩ : ∃ D, wr.drew = D := ⟨_, rfl⟩
    have hb0 : Below wr.heap.size wr D0 := by rw [← hD0]; exact (Below.refl _ _).drew
    rw [hD0] at hHeld ⊢
    have HD0 : Hid (Below wr.heap.size wr D0) := hb0
    clear hb0 hD0
    have HV0 : Hid (Below V.heap.size V D0) := HB.out.trans (HD0.out.mono HB.out.size)
    refine takeV13 (i := 0) (oi := _) (v := ?_) (d := some 8) rfl (by kernel_rfl) (by kernel_rfl) (by kernel_rfl) (by kernel_rfl) (fun _ _ _ h => h) (Or.inl ⟨by rfl, ?_⟩) (by assumption) ?_
    rotate_left
    ·(intro w hSw; (try dsimp only at hSw); go_simp <;> with_reducible rfl)
    try simp only [Act.put, zsA, zsB, zsC]
    refine takeV13 (i := 1) (oi := _) (v := ?_) (d := some 9) rfl (by kernel_rfl) (by kernel_rfl) (by kernel_rfl) (by kernel_rfl) (fun _ _ _ h => h) (Or.inl ⟨by rfl, ?_⟩) (by assumption) ?_
    rotate_left
    ·(intro w hSw; (try dsimp only at hSw); go_simp <;> with_reducible rfl)
    try simp only [Act.put, zsA, zsB, zsC]
    refine takeV13 (i := 3) (oi := _) (v := ?_) (d := some 11) rfl (by kernel_rfl) (by kernel_rfl) (by kernel_rfl) (by kernel_rfl) (fun _ _ _ h => h) (Or.inl ⟨by rfl, ?_⟩) (by assumption) ?_
    rotate_left
    ·(intro w hSw; (try dsimp only at hSw); go_simp <;> with_reducible rfl)
    try simp only [Act.put, zsA, zsB, zsC]
    refine takeV13 (i := 4) (oi := _) (v := ?_) (d := some 12) rfl (by kernel_rfl) (by kernel_rfl) (by kernel_rfl) (by kernel_rfl) (fun _ _ _ h => h) (Or.inl ⟨by rfl, ?_⟩) (by assumption) ?_
    rotate_left
    ·(intro w hSw; (try dsimp only at hSw); go_simp <;> with_reducible rfl)
    try simp only [Act.put, zsA, zsB, zsC]
    refine wpAnyH_ready (rs := [2]) (by kernel_rfl) (by simp) ?_
    refine AllReadyH.cons (o := _) rfl (fun K hK => ?_) AllReadyH.nil
    go_simp
    refine (HQS.out _ HV0.out).mono ?_
    rintro e D1 ⟨rfl, hb⟩
    have HD1 : Hid (Below wr.heap.size wr D1) := HD0.out.trans (hb.mono HD0.out.size)
    clear hb HD0 HV0
    refine hK.out _ _ ?_ (fun hHeld => ?_)
    ·exact (HC.out.later (HB.out.trans (HD1.out.mono HB.out.size))).1
    clear hK K
    try simp only [Act.put, zsA, zsB, zsC]
    refine wpAnyH_ready (rs := [5]) (by kernel_rfl) (by simp) ?_
    refine AllReadyH.cons (o := _) rfl (fun K hK => ?_) AllReadyH.nil
    go_simp
    refine (HQQ.out _).mono ?_
    rintro e D2 ⟨rfl, hb⟩
    have HD2 : Hid (Below wr.heap.size wr D2) := HD1.out.trans (hb.mono HD1.out.size)
    clear hb HD1
    refine hK.out _ _ ?_ (fun hHeld => ?_)
    ·exact (HC.out.later (HB.out.trans (HD2.out.mono HB.out.size))).1
    clear hK K
    try simp only [Act.put, zsA, zsB, zsC]
    refine takeV13 (i := 6) (oi := _) (v := ?_) (d := some 14) rfl (by kernel_rfl) (by kernel_rfl) (by kernel_rfl) (by kernel_rfl) (fun _ _ _ h => h) (Or.inl ⟨by rfl, ?_⟩) (by assumption) ?_
    rotate_left
    ·(intro w hSw; (try dsimp only at hSw); go_simp <;> with_reducible rfl)
    try simp only [Act.put, zsA, zsB, zsC]
    refine wpAnyH_done (by kernel_rfl) ?_ _
    clear hHeld
    go_wp2
    exact ⟨⟨k + 1, a', n', c', by omega, by go_num, rfl, by show Own _ _ _ _; rw [HN.out]; exact HO.out.later HD2.out, HB.out.trans (HD2.out.mono HB.out.size)⟩, by simp [intOf]; omega⟩
  ·obtain rfl : k = 10 := by omega
   go_wp2
   go_ret
   exact ⟨_, _, _, rfl, HO.out.mono HVS.out, HB0.out.trans (HB.out.mono HB0.out.size)⟩

end Go.Proofs.Ytaokmjbhgkfnfaa
