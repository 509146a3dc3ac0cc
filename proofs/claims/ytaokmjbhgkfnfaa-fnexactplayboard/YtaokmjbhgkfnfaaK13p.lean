/- Chapter 13: lists of lists of ints: copied, sized, marked. -/
import Derived.Test.YtaokmjbhgkfnfaaS13p
namespace Go.Proofs.Ytaokmjbhgkfnfaa
set_option linter.unusedVariables false
set_option maxRecDepth 1000000
set_option linter.unusedSimpArgs false
open Go.RowKit

/-- Nothing but blocks of pp has turned. -/
structure RngP (pp : Nat → Prop) (w w' : World) : Prop where
  os : w'.os = w.os
  tape : w'.tape = w.tape
  output : w'.output = w.output
  size : w.heap.size ≤ w'.heap.size
  block : ∀ q, q < w.heap.size → ¬ pp q → w'.heap[q]? = w.heap[q]?
theorem RngP.refl (pp : Nat → Prop) (w : World) : RngP pp w w := ⟨rfl, rfl, rfl, Nat.le_refl _, fun _ _ _ => rfl⟩
theorem RngP.trans {pp : Nat → Prop} {w a b : World} (h : RngP pp w a) (k : RngP pp a b) : RngP pp w b := ⟨k.os.trans h.os, k.tape.trans h.tape, k.output.trans h.output, Nat.le_trans h.size k.size, fun q hq ho => (k.block q (Nat.lt_of_lt_of_le hq h.size) ho).trans (h.block q hq ho)⟩
theorem RngP.ofGrown {pp : Nat → Prop} {w w' : World} {row : Option Nat} (h : w.grownBy w' row) (hr : ∀ k, row = some k → pp k) : RngP pp w w' := ⟨h.os, h.tape, h.output, h.size, fun q hq ho => h.block q hq (fun e => ho (hr q e.symm))⟩
theorem RngP.below {pp : Nat → Prop} {B : Nat} {w w' : World} (h : RngP pp w w') (h1 : ∀ k, pp k → B ≤ k) (h2 : B ≤ w.heap.size) : Below B w w' := ⟨h.os, h.tape, h.output, h.size, fun q hq => h.block q (by omega) (fun e => by have := h1 q e; omega)⟩
theorem RngP.imp {pp qq : Nat → Prop} {w w' : World} (h : RngP pp w w') (hi : ∀ k, pp k → qq k) : RngP qq w w' := ⟨h.os, h.tape, h.output, h.size, fun q hq ho => h.block q hq (fun e => ho (hi q e))⟩
theorem row_rngP {pp : Nat → Prop} {w w' : World} {lo : Nat} {e : TypeId} {n : Nat} {v : Value} {xs : List Value} (h : w.ownsRow lo e 1 v n xs) (hr : RngP pp w w') (hd : ∀ k, v.ownBlock = some k → ¬ pp k) : w'.ownsRow lo e 1 v n xs := by
  refine ⟨h.1, ?_⟩
  rcases h.2 with h0 | ⟨g, cap, cur, hv, hlo, hh, r⟩
  · exact Or.inl h0
  · exact Or.inr ⟨g, cap, cur, hv, hlo, by rw [hr.block g (Array.getElem?_eq_some_iff.1 hh).1 (hd g (by rw [hv]; rfl))]; exact hh, r⟩
theorem Own.rngP {pp : Nat → Prop} {w w' : World} {lo : Nat} {v : Value} {xs : List Int} (h : Own w lo v xs) (hr : RngP pp w w') (hd : ∀ k, v.ownBlock = some k → ¬ pp k) : Own w' lo v xs := row_rngP h hr hd
/-- A row of rows whose blocks are of pp. -/
def OwnIP (w : World) (lo : Nat) (pp : Nat → Prop) (v : Value) (xss : List (List Int)) : Prop :=
  ∃ vs : List Value, vs.length = xss.length ∧ w.ownsRow lo 23 1 v xss.length vs ∧ (∀ j, j < xss.length → Own w lo (vs.getD j nilV) (xss.getD j [])) ∧ (∀ i j, i < j → j < xss.length → sepB (vs.getD i nilV) (vs.getD j nilV)) ∧ (∀ k, v.ownBlock = some k → pp k) ∧ ∀ j, j < xss.length → ∀ k, (vs.getD j nilV).ownBlock = some k → pp k
theorem OwnIP.toS {w : World} {lo : Nat} {pp : Nat → Prop} {v : Value} {xss : List (List Int)} (h : OwnIP w lo pp v xss) : OwnII w lo v xss := by
  obtain ⟨vs, hl, ho, hi, hs, _⟩ := h
  exact ⟨vs, hl, ho, hi, hs⟩
theorem OwnIP.later {w w' : World} {lo : Nat} {pp : Nat → Prop} {v : Value} {xss : List (List Int)} (h : OwnIP w lo pp v xss) (hb : Below w.heap.size w w') : OwnIP w' lo pp v xss := by
  obtain ⟨vs, hl, ho, hi, hs, h1, h2⟩ := h
  exact ⟨vs, hl, rowLater ho hb, fun j hj => (hi j hj).later hb, hs, h1, h2⟩
theorem OwnIP.mono {w : World} {lo lo' : Nat} {pp qq : Nat → Prop} {v : Value} {xss : List (List Int)} (h : OwnIP w lo pp v xss) (hl : lo' ≤ lo) (hi : ∀ k, pp k → qq k) : OwnIP w lo' qq v xss := by
  obtain ⟨vs, hl', ho, hi', hs, h1, h2⟩ := h
  exact ⟨vs, hl', rowMono ho hl, fun j hj => (hi' j hj).mono hl, hs, fun k e => hi k (h1 k e), fun j hj k e => hi k (h2 j hj k e)⟩
theorem OwnIP.rng {w w' : World} {lo : Nat} {pp qq : Nat → Prop} {v : Value} {xss : List (List Int)} (h : OwnIP w lo pp v xss) (hr : RngP qq w w') (hd : ∀ k, pp k → ¬ qq k) : OwnIP w' lo pp v xss := by
  obtain ⟨vs, hl, ho, hin, hs, h1, h2⟩ := h
  exact ⟨vs, hl, row_rngP ho hr (fun k e => hd k (h1 k e)), fun j hj => (hin j hj).rngP hr (fun k e => hd k (h2 j hj k e)), hs, h1, h2⟩
theorem Own.setBox {w : World} {lo : Nat} {v : Value} {xs : List Int} (h : Own w lo v xs) {r j : Nat} (hr : r < lo) (u : Value) : Own (w.setCell ⟨r, j, none⟩ u) lo v xs := by
  refine h.kept (grown_setCell w r j u) ?_
  cases hb : v.ownBlock with
  | none => exact Or.inl rfl
  | some k => exact Or.inr (fun e => by have := own_block_ge h k hb; simp only [Option.some.injEq] at e; omega)

set_option maxHeartbeats 2000000 in
theorem markIP_c (ao : Option Addr) (n c lo : Nat) (pp : Nat → Prop) (xss : List (List Int)) (w : World) (hx : xss.length = n) (hn : n ≤ 1048576) (hl : ∀ l ∈ xss, l.length ≤ 1048576) (ho : OwnIP w lo pp (.slice ao n c) xss) :
    Calls Try.prog 85 #[.slice ao n c, .int .i64 1] w fun e w' => e = .returned (.int .i64 (1 + (cum xss n : Nat))) ∧ OwnIP w' lo pp (.slice ao n c) (markL xss) ∧ RngP pp w w' := by
  obtain ⟨vs, hvl, hvo, hvi, hvs, hv1, hv2⟩ := ho
  have HX : Hid (xss.length = n) := hx
  have HL : Hid (∀ l ∈ xss, l.length ≤ 1048576) := hl
  have HVL : Hid (vs.length = xss.length) := hvl
  have HVS : Hid (∀ i j, i < j → j < xss.length → sepB (vs.getD i nilV) (vs.getD j nilV)) := hvs
  have HV1 : Hid (∀ k, (Value.slice ao n c).ownBlock = some k → pp k) := hv1
  have HV2 : Hid (∀ j, j < xss.length → ∀ k, (vs.getD j nilV).ownBlock = some k → pp k) := hv2
  have HI0 : Hid (w.ownsRow lo 23 1 (.slice ao n c) xss.length vs ∧ (∀ j, j < 0 → Own w lo (vs.getD j nilV) (marks (1 + (cum xss j : Nat)) (xss.getD j []).length)) ∧ ∀ j, 0 ≤ j → j < n → Own w lo (vs.getD j nilV) (xss.getD j [])) := ⟨hvo, fun j h => absurd h (by omega), fun j _ hj => hvi j (by omega)⟩
  have HC : Hid (∀ j, j ≤ n → cum xss j ≤ 1099511627776) := fun j hj => Nat.le_trans (cum_le hl j (by omega)) (by have : j * 1048576 ≤ 1048576 * 1048576 := Nat.mul_le_mul_right _ (by omega); omega)
  clear hx hl hvl hvo hvi hvs hv1 hv2
  go_enter Try.func85, Try.ntmps85
  go_wp2
  go_loopw [1, 5] (fun kv iv wr => ∃ (k q : Nat), k ≤ n ∧ iv = .int .i64 k ∧ kv = .int .i64 q ∧ Hid (q = 1 + cum xss k) ∧ Hid (wr.ownsRow lo 23 1 (.slice ao n c) xss.length vs ∧ (∀ j, j < k → Own wr lo (vs.getD j nilV) (marks (1 + (cum xss j : Nat)) (xss.getD j []).length)) ∧ ∀ j, k ≤ j → j < n → Own wr lo (vs.getD j nilV) (xss.getD j [])) ∧ Hid (RngP pp w wr)) (fun _ iv _ => n - (intOf iv).toNat)
  case atStart => exact ⟨0, 1, Nat.zero_le _, rfl, rfl, by show _ = _; simp [cum], HI0, RngP.refl _ _⟩
  case round =>
    clear HI0
    obtain ⟨k, q, hk, rfl, rfl, HQ, HI, HG⟩ := hrel
    by_cases hlt : k < n
    · have hkl : k < xss.length := by rw [HX.out]; exact hlt
      have hok := HI.out.2.2 k (Nat.le_refl _) hlt
      have hrow := HI.out.1
      obtain ⟨gb, gcap, hao, g1⟩ : ∃ g cc, ao = some ⟨g, 0, none⟩ ∧ wr.cell? ⟨g, k, none⟩ = some (vs.getD k nilV) := by
        rcases hrow.2 with ⟨h0, h1⟩ | ⟨g, cap, cur, hv, _⟩
        · omega
        · have e := hv
          simp only [Value.slice.injEq] at e
          refine ⟨g, cap, e.1, ?_⟩
          have hc := World.ownsRow.cellAt (g := g) (cap := c) (n := xss.length) (by have h := hrow; rw [e.1, HX.out] at h; rw [HX.out]; exact h) k (by omega)
          rw [hc, List.getElem?_eq_getElem (by rw [HVL.out]; exact hkl)]
          simp [List.getD, show k < vs.length by rw [HVL.out]; exact hkl]
      subst hao
      have hlk := HL.out _ (mem_getD [] hkl)
      have hcs := cum_succ hkl
      have hcb := HC.out (k + 1) (by omega)
      have hv2k := HV2.out k hkl
      have hlo := own_block_ge hok
      obtain ⟨ra, rcc, hrv⟩ := hok.shape
      obtain ⟨rn, hrn⟩ : ∃ rn, (xss.getD k []).length = rn := ⟨_, rfl⟩
      rw [hrn] at hrv hlk hcs
      have q1 := markIntS_c ra rn rcc (q : Int) lo (xss.getD k []) wr (by omega) (by omega) (by have := HQ.out; omega) (by rw [← hrv]; exact hok)
      have HRV : Hid (vs.getD k nilV = .slice ra rn rcc) := hrv
      have HRN : Hid ((xss.getD k []).length = rn) := hrn
      have HCS : Hid (cum xss (k + 1) = cum xss k + rn) := hcs
      have HLO : Hid (∀ k', (Value.slice ra rn rcc).ownBlock = some k' → pp k') := fun k' e => by rw [← hrv] at e; exact hv2k k' e
      rw [hrv] at g1
      have hqb : q ≤ 1099511627777 := by have := HQ.out; have := HC.out k (by omega); omega
      clear hok hrow hkl hlk hcs hcb hv2k hlo hrv hrn
      have k0 : (0 : Int) ≤ (k : Int) := by omega
      have k1 : (k : Int) < (n : Int) := by omega
      go_wp2_with fail
      refine q1.mono ?_
      clear q1
      rintro e w1 ⟨rfl, ho1, hg1⟩
      have hkl : k < xss.length := by rw [HX.out]; exact hlt
      have HI1 : Hid (w1.ownsRow lo 23 1 (.slice (some ⟨gb, 0, none⟩) n c) xss.length vs ∧ (∀ j, j < k + 1 → Own w1 lo (vs.getD j nilV) (marks (1 + (cum xss j : Nat)) (xss.getD j []).length)) ∧ ∀ j, k + 1 ≤ j → j < n → Own w1 lo (vs.getD j nilV) (xss.getD j [])) := by
        have hok := HI.out.2.2 k (Nat.le_refl _) hlt
        refine ⟨World.ownsRow.kept HI.out.1 hg1 ?_, fun j hj => ?_, fun j hj hjn => ?_⟩
        · rw [← HRV.out]
          rcases row_sep hok HI.out.1 with h | h
          · rw [h]
            cases (Value.slice (some ⟨gb, 0, none⟩) n c).ownBlock with
            | none => exact Or.inl rfl
            | some y => exact Or.inr (by simp)
          · exact Or.inr (Ne.symm h)
        · by_cases e : j = k
          · subst e
            rw [HRV.out, HRN.out]
            have hq : (q : Int) = 1 + (cum xss j : Nat) := by have := HQ.out; omega
            rw [← hq]; exact ho1
          · refine (HI.out.2.1 j (by omega)).kept hg1 ?_
            rw [← HRV.out]
            exact HVS.out j k (by omega) hkl
        · refine (HI.out.2.2 j (by omega) hjn).kept hg1 ?_
          rw [← HRV.out]
          rcases HVS.out k j (by omega) (by rw [HX.out]; exact hjn) with h | h
          · rw [h]
            cases (vs.getD j nilV).ownBlock with
            | none => exact Or.inl rfl
            | some y => exact Or.inr (by simp)
          · exact Or.inr (Ne.symm h)
      have HG1 : Hid (RngP pp w w1) := HG.out.trans (RngP.ofGrown hg1 HLO.out)
      have HQ1 : Hid (q + rn = 1 + cum xss (k + 1)) := by show _ = _; have := HQ.out; have := HCS.out; omega
      have hrnb : rn ≤ 1048576 := by have h := HL.out _ (mem_getD [] hkl); rw [HRN.out] at h; exact h
      clear ho1 hg1 hkl HI HG
      go_wp2
      go_roundw
      case rel => exact ⟨k + 1, q + rn, by omega, by go_num, by go_num, HQ1, HI1, HG1⟩
      case measure => simp [intOf]; omega
    · obtain rfl : k = n := by omega
      have hq : (q : Int) = 1 + (cum xss k : Nat) := by have := HQ.out; omega
      have HQ2 : Hid ((q : Int) = 1 + (cum xss k : Nat)) := hq
      clear hq
      go_wp2
      go_ret
      refine ⟨ret_int HQ2.out, ⟨vs, by rw [HVL.out, markL_length], by rw [markL_length]; exact HI.out.1, fun j hj => ?_, fun i j hij hj => HVS.out i j hij (by rw [markL_length] at hj; exact hj), HV1.out, fun j hj => HV2.out j (by rw [markL_length] at hj; exact hj)⟩, HG.out⟩
      rw [markL_length] at hj
      rw [markL_getD hj]
      exact HI.out.2.1 j (by rw [HX.out] at hj; exact hj)

set_option maxHeartbeats 2000000 in
theorem heldIP_c (ao : Option Addr) (n c lo : Nat) (pp : Nat → Prop) (xss : List (List Int)) (w : World) (hx : xss.length = n) (hn : n ≤ 1048576) (hl : ∀ l ∈ xss, l.length ≤ 1048576) (ho : OwnIP w lo pp (.slice ao n c) (markL xss)) :
    Calls Try.prog 86 #[.slice ao n c, .int .i64 1] w fun e w' => e = .returned (.int .i64 (1 + (cum xss n : Nat))) ∧ Below w.heap.size w w' := by
  have HX : Hid (xss.length = n) := hx
  have HL : Hid (∀ l ∈ xss, l.length ≤ 1048576) := hl
  have HO : Hid (OwnIP w lo pp (.slice ao n c) (markL xss)) := ho
  have HC : Hid (∀ j, j ≤ n → cum xss j ≤ 1099511627776) := fun j hj => Nat.le_trans (cum_le hl j (by omega)) (by have : j * 1048576 ≤ 1048576 * 1048576 := Nat.mul_le_mul_right _ (by omega); omega)
  clear hx hl ho
  go_enter Try.func86, Try.ntmps86
  go_wp2
  go_loopw [1, 5] (fun kv iv wr => ∃ (k q : Nat), k ≤ n ∧ iv = .int .i64 k ∧ kv = .int .i64 q ∧ Hid (q = 1 + cum xss k) ∧ Hid (Below w.heap.size w wr)) (fun _ iv _ => n - (intOf iv).toNat)
  case atStart => exact ⟨0, 1, Nat.zero_le _, rfl, rfl, by show _ = _; simp [cum], Below.refl _ _⟩
  case round =>
    obtain ⟨k, q, hk, rfl, rfl, HQ, HB⟩ := hrel
    by_cases hlt : k < n
    · have hkl : k < xss.length := by rw [HX.out]; exact hlt
      obtain ⟨vs, hvl, hvo, hvi, _⟩ := HO.out.later HB.out
      rw [markL_length] at hvl hvo hvi
      have hok := hvi k hkl
      rw [markL_getD hkl] at hok
      obtain ⟨gb, gcap, hao, g1⟩ : ∃ g cc, ao = some ⟨g, 0, none⟩ ∧ wr.cell? ⟨g, k, none⟩ = some (vs.getD k nilV) := by
        rcases hvo.2 with ⟨h0, h1⟩ | ⟨g, cap, cur, hv, _⟩
        · omega
        · have e := hv
          simp only [Value.slice.injEq] at e
          refine ⟨g, cap, e.1, ?_⟩
          have hc := World.ownsRow.cellAt (g := g) (cap := c) (n := xss.length) (by have h := hvo; rw [e.1, HX.out] at h; rw [HX.out]; exact h) k (by omega)
          rw [hc, List.getElem?_eq_getElem (by rw [hvl]; exact hkl)]
          simp [List.getD, show k < vs.length by rw [hvl]; exact hkl]
      subst hao
      have hlk := HL.out _ (mem_getD [] hkl)
      have hcs := cum_succ hkl
      have hcb := HC.out (k + 1) (by omega)
      obtain ⟨ra, rcc, hrv⟩ := hok.shape
      obtain ⟨rn, hrn⟩ : ∃ rn, (xss.getD k []).length = rn := ⟨_, rfl⟩
      rw [hrn] at hrv hlk hcs hok
      rw [marks_length] at hrv
      have hq : (1 : Int) + (cum xss k : Nat) = q := by have := HQ.out; omega
      rw [hq, hrv] at hok
      have q1 := heldIntS_c ra rn rcc (q : Int) lo wr (by omega) (by omega) (by have := HQ.out; omega) hok
      have HCS : Hid (cum xss (k + 1) = cum xss k + rn) := hcs
      rw [hrv] at g1
      have hqb : q ≤ 1099511627777 := by have := HQ.out; have := HC.out k (by omega); omega
      have hqn : ¬ ((q : Int) + (rn : Int) < 0) := by omega
      clear hok hvo hvi hvl hkl hcs hcb hrv hrn hq
      have k0 : (0 : Int) ≤ (k : Int) := by omega
      have k1 : (k : Int) < (n : Int) := by omega
      go_wp2_with fail
      refine q1.mono ?_
      clear q1
      rintro e w1 ⟨rfl, hb1⟩
      have HB1 : Hid (Below w.heap.size w w1) := by show Below _ _ _; rw [hb1]; exact HB.out
      have HQ1 : Hid (q + rn = 1 + cum xss (k + 1)) := by show _ = _; have := HQ.out; have := HCS.out; omega
      clear hb1 HB
      go_wp2
      go_roundw
      case rel => exact ⟨k + 1, q + rn, by omega, by go_num, by go_num, HQ1, HB1⟩
      case measure => simp [intOf]; omega
    · obtain rfl : k = n := by omega
      have HQ2 : Hid ((q : Int) = 1 + (cum xss k : Nat)) := by show _ = _; have := HQ.out; omega
      go_wp2
      go_ret
      exact ⟨ret_int HQ2.out, HB.out⟩


end Go.Proofs.Ytaokmjbhgkfnfaa
