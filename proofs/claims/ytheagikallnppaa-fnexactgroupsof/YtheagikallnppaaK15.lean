/- Chapter 15: lists of lists of ints: copied, sized, marked. -/
import Derived.Test.YtheagikallnppaaI15
namespace Go.Proofs.Ytheagikallnppaa
set_option linter.unusedVariables false
set_option maxRecDepth 1000000
set_option linter.unusedSimpArgs false
open Go.RowKit

/-- Nothing but blocks of pp has turned. -/
structure RngP (pp : Nat → Prop) (w w' : World) : Prop where
  os : w'.os = w.os
  tape : w'.tape = w.tape
  output : w'.output = w.output
  size : w.heap.size ≤ w'.heap.size
  block : ∀ q, q < w.heap.size → ¬ pp q → w'.heap[q]? = w.heap[q]?
theorem RngP.refl (pp : Nat → Prop) (w : World) : RngP pp w w := ⟨rfl, rfl, rfl, Nat.le_refl _, fun _ _ _ => rfl⟩
theorem RngP.trans {pp : Nat → Prop} {w a b : World} (h : RngP pp w a) (k : RngP pp a b) : RngP pp w b := ⟨k.os.trans h.os, k.tape.trans h.tape, k.output.trans h.output, Nat.le_trans h.size k.size, fun q hq ho => (k.block q (Nat.lt_of_lt_of_le hq h.size) ho).trans (h.block q hq ho)⟩
theorem RngP.ofGrown {pp : Nat → Prop} {w w' : World} {row : Option Nat} (h : w.grownBy w' row) (hr : ∀ k, row = some k → pp k) : RngP pp w w' := ⟨h.os, h.tape, h.output, h.size, fun q hq ho => h.block q hq (fun e => ho (hr q e.symm))⟩
theorem RngP.below {pp : Nat → Prop} {B : Nat} {w w' : World} (h : RngP pp w w') (h1 : ∀ k, pp k → B ≤ k) (h2 : B ≤ w.heap.size) : Below B w w' := ⟨h.os, h.tape, h.output, h.size, fun q hq => h.block q (by omega) (fun e => by have := h1 q e; omega)⟩
theorem RngP.imp {pp qq : Nat → Prop} {w w' : World} (h : RngP pp w w') (hi : ∀ k, pp k → qq k) : RngP qq w w' := ⟨h.os, h.tape, h.output, h.size, fun q hq ho => h.block q hq (fun e => ho (hi q e))⟩
theorem row_rngP {pp : Nat → Prop} {w w' : World} {lo : Nat} {e : TypeId} {n : Nat} {v : Value} {xs : List Value} (h : w.ownsRow lo e 1 v n xs) (hr : RngP pp w w') (hd : ∀ k, v.ownBlock = some k → ¬ pp k) : w'.ownsRow lo e 1 v n xs := by
  refine ⟨h.1, ?_⟩
  rcases h.2 with h0 | ⟨g, cap, cur, hv, hlo, hh, r⟩
  · exact Or.inl h0
  · exact Or.inr ⟨g, cap, cur, hv, hlo, by rw [hr.block g (Array.getElem?_eq_some_iff.1 hh).1 (hd g (by rw [hv]; rfl))]; exact hh, r⟩
theorem Own.rngP {pp : Nat → Prop} {w w' : World} {lo : Nat} {v : Value} {xs : List Int} (h : Own w lo v xs) (hr : RngP pp w w') (hd : ∀ k, v.ownBlock = some k → ¬ pp k) : Own w' lo v xs := row_rngP h hr hd
/-- A row of rows whose blocks are of pp. -/
def OwnIP (w : World) (lo : Nat) (pp : Nat → Prop) (v : Value) (xss : List (List Int)) : Prop :=
  ∃ vs : List Value, vs.length = xss.length ∧ w.ownsRow lo 24 1 v xss.length vs ∧ (∀ j, j < xss.length → Own w lo (vs.getD j nilV) (xss.getD j [])) ∧ (∀ i j, i < j → j < xss.length → sepB (vs.getD i nilV) (vs.getD j nilV)) ∧ (∀ k, v.ownBlock = some k → pp k) ∧ ∀ j, j < xss.length → ∀ k, (vs.getD j nilV).ownBlock = some k → pp k
theorem OwnII.toP {w : World} {base : Nat} {v : Value} {xss : List (List Int)} (h : OwnII w base v xss) : OwnIP w base (fun k => base ≤ k ∧ k < w.heap.size) v xss := by
  obtain ⟨vs, hl, ho, hi, hs⟩ := h
  exact ⟨vs, hl, ho, hi, hs, fun k e => World.ownsRow.lt ho k e, fun j hj k e => World.ownsRow.lt (hi j hj) k e⟩
theorem OwnIP.toS {w : World} {lo : Nat} {pp : Nat → Prop} {v : Value} {xss : List (List Int)} (h : OwnIP w lo pp v xss) : OwnII w lo v xss := by
  obtain ⟨vs, hl, ho, hi, hs, _⟩ := h
  exact ⟨vs, hl, ho, hi, hs⟩
theorem OwnIP.later {w w' : World} {lo : Nat} {pp : Nat → Prop} {v : Value} {xss : List (List Int)} (h : OwnIP w lo pp v xss) (hb : Below w.heap.size w w') : OwnIP w' lo pp v xss := by
  obtain ⟨vs, hl, ho, hi, hs, h1, h2⟩ := h
  exact ⟨vs, hl, rowLater ho hb, fun j hj => (hi j hj).later hb, hs, h1, h2⟩
theorem OwnIP.mono {w : World} {lo lo' : Nat} {pp qq : Nat → Prop} {v : Value} {xss : List (List Int)} (h : OwnIP w lo pp v xss) (hl : lo' ≤ lo) (hi : ∀ k, pp k → qq k) : OwnIP w lo' qq v xss := by
  obtain ⟨vs, hl', ho, hi', hs, h1, h2⟩ := h
  exact ⟨vs, hl', rowMono ho hl, fun j hj => (hi' j hj).mono hl, hs, fun k e => hi k (h1 k e), fun j hj k e => hi k (h2 j hj k e)⟩
theorem OwnIP.rng {w w' : World} {lo : Nat} {pp qq : Nat → Prop} {v : Value} {xss : List (List Int)} (h : OwnIP w lo pp v xss) (hr : RngP qq w w') (hd : ∀ k, pp k → ¬ qq k) : OwnIP w' lo pp v xss := by
  obtain ⟨vs, hl, ho, hin, hs, h1, h2⟩ := h
  exact ⟨vs, hl, row_rngP ho hr (fun k e => hd k (h1 k e)), fun j hj => (hin j hj).rngP hr (fun k e => hd k (h2 j hj k e)), hs, h1, h2⟩
theorem Own.setBox {w : World} {lo : Nat} {v : Value} {xs : List Int} (h : Own w lo v xs) {r j : Nat} (hr : r < lo) (u : Value) : Own (w.setCell ⟨r, j, none⟩ u) lo v xs := by
  refine h.kept (grown_setCell w r j u) ?_
  cases hb : v.ownBlock with
  | none => exact Or.inl rfl
  | some k => exact Or.inr (fun e => by have := own_block_ge h k hb; simp only [Option.some.injEq] at e; omega)

set_option maxHeartbeats 2000000 in
theorem markIP_c (ao : Option Addr) (n c lo : Nat) (pp : Nat → Prop) (xss : List (List Int)) (w : World) (hx : xss.length = n) (hn : n ≤ 1048576) (hl : ∀ l ∈ xss, l.length ≤ 1048576) (ho : OwnIP w lo pp (.slice ao n c) xss) :
    Calls Try.prog 49 #[.slice ao n c, .int .i64 1] w fun e w' => e = .returned (.int .i64 (1 + (cum xss n : Nat))) ∧ OwnIP w' lo pp (.slice ao n c) (markL xss) ∧ RngP pp w w' := by
  obtain ⟨vs, hvl, hvo, hvi, hvs, hv1, hv2⟩ := ho
  have HX : Hid (xss.length = n) := hx
  have HL : Hid (∀ l ∈ xss, l.length ≤ 1048576) := hl
  have HVL : Hid (vs.length = xss.length) := hvl
  have HVS : Hid (∀ i j, i < j → j < xss.length → sepB (vs.getD i nilV) (vs.getD j nilV)) := hvs
  have HV1 : Hid (∀ k, (Value.slice ao n c).ownBlock = some k → pp k) := hv1
  have HV2 : Hid (∀ j, j < xss.length → ∀ k, (vs.getD j nilV).ownBlock = some k → pp k) := hv2
  have HI0 : Hid (w.ownsRow lo 24 1 (.slice ao n c) xss.length vs ∧ (∀ j, j < 0 → Own w lo (vs.getD j nilV) (marks (1 + (cum xss j : Nat)) (xss.getD j []).length)) ∧ ∀ j, 0 ≤ j → j < n → Own w lo (vs.getD j nilV) (xss.getD j [])) := ⟨hvo, fun j h => absurd h (by omega), fun j _ hj => hvi j (by omega)⟩
  have HC : Hid (∀ j, j ≤ n → cum xss j ≤ 1099511627776) := fun j hj => Nat.le_trans (cum_le hl j (by omega)) (by have : j * 1048576 ≤ 1048576 * 1048576 := Nat.mul_le_mul_right _ (by omega); omega)
  clear hx hl hvl hvo hvi hvs hv1 hv2
  go_enter Try.func49, Try.ntmps49
  go_wp2
  go_loopw [1, 5] (fun kv iv wr => ∃ (k q : Nat), k ≤ n ∧ iv = .int .i64 k ∧ kv = .int .i64 q ∧ Hid (q = 1 + cum xss k) ∧ Hid (wr.ownsRow lo 24 1 (.slice ao n c) xss.length vs ∧ (∀ j, j < k → Own wr lo (vs.getD j nilV) (marks (1 + (cum xss j : Nat)) (xss.getD j []).length)) ∧ ∀ j, k ≤ j → j < n → Own wr lo (vs.getD j nilV) (xss.getD j [])) ∧ Hid (RngP pp w wr)) (fun _ iv _ => n - (intOf iv).toNat)
  case atStart => exact ⟨0, 1, Nat.zero_le _, rfl, rfl, by show _ = _; simp [cum], HI0, RngP.refl _ _⟩
  case round =>
    clear HI0
    obtain ⟨k, q, hk, rfl, rfl, HQ, HI, HG⟩ := hrel
    by_cases hlt : k < n
    · have hkl : k < xss.length := by rw [HX.out]; exact hlt
      have hok := HI.out.2.2 k (Nat.le_refl _) hlt
      have hrow := HI.out.1
      obtain ⟨gb, gcap, hao, g1⟩ : ∃ g cc, ao = some ⟨g, 0, none⟩ ∧ wr.cell? ⟨g, k, none⟩ = some (vs.getD k nilV) := by
        rcases hrow.2 with ⟨h0, h1⟩ | ⟨g, cap, cur, hv, _⟩
        · omega
        · have e := hv
          simp only [Value.slice.injEq] at e
          refine ⟨g, cap, e.1, ?_⟩
          have hc := World.ownsRow.cellAt (g := g) (cap := c) (n := xss.length) (by have h := hrow; rw [e.1, HX.out] at h; rw [HX.out]; exact h) k (by omega)
          rw [hc, List.getElem?_eq_getElem (by rw [HVL.out]; exact hkl)]
          simp [List.getD, show k < vs.length by rw [HVL.out]; exact hkl]
      subst hao
      have hlk := HL.out _ (mem_getD [] hkl)
      have hcs := cum_succ hkl
      have hcb := HC.out (k + 1) (by omega)
      have hv2k := HV2.out k hkl
      have hlo := own_block_ge hok
      obtain ⟨ra, rcc, hrv⟩ := hok.shape
      obtain ⟨rn, hrn⟩ : ∃ rn, (xss.getD k []).length = rn := ⟨_, rfl⟩
      rw [hrn] at hrv hlk hcs
      have q1 := markIntS_c ra rn rcc (q : Int) lo (xss.getD k []) wr (by omega) (by omega) (by have := HQ.out; omega) (by rw [← hrv]; exact hok)
      have HRV : Hid (vs.getD k nilV = .slice ra rn rcc) := hrv
      have HRN : Hid ((xss.getD k []).length = rn) := hrn
      have HCS : Hid (cum xss (k + 1) = cum xss k + rn) := hcs
      have HLO : Hid (∀ k', (Value.slice ra rn rcc).ownBlock = some k' → pp k') := fun k' e => by rw [← hrv] at e; exact hv2k k' e
      rw [hrv] at g1
      have hqb : q ≤ 1099511627777 := by have := HQ.out; have := HC.out k (by omega); omega
      clear hok hrow hkl hlk hcs hcb hv2k hlo hrv hrn
      have k0 : (0 : Int) ≤ (k : Int) := by omega
      have k1 : (k : Int) < (n : Int) := by omega
      go_wp2_with fail
      refine q1.mono ?_
      clear q1
      rintro e w1 ⟨rfl, ho1, hg1⟩
      have hkl : k < xss.length := by rw [HX.out]; exact hlt
      have HI1 : Hid (w1.ownsRow lo 24 1 (.slice (some ⟨gb, 0, none⟩) n c) xss.length vs ∧ (∀ j, j < k + 1 → Own w1 lo (vs.getD j nilV) (marks (1 + (cum xss j : Nat)) (xss.getD j []).length)) ∧ ∀ j, k + 1 ≤ j → j < n → Own w1 lo (vs.getD j nilV) (xss.getD j [])) := by
        have hok := HI.out.2.2 k (Nat.le_refl _) hlt
        refine ⟨World.ownsRow.kept HI.out.1 hg1 ?_, fun j hj => ?_, fun j hj hjn => ?_⟩
        · rw [← HRV.out]
          rcases row_sep hok HI.out.1 with h | h
          · rw [h]
            cases (Value.slice (some ⟨gb, 0, none⟩) n c).ownBlock with
            | none => exact Or.inl rfl
            | some y => exact Or.inr (by simp)
          · exact Or.inr (Ne.symm h)
        · by_cases e : j = k
          · subst e
            rw [HRV.out, HRN.out]
            have hq : (q : Int) = 1 + (cum xss j : Nat) := by have := HQ.out; omega
            rw [← hq]; exact ho1
          · refine (HI.out.2.1 j (by omega)).kept hg1 ?_
            rw [← HRV.out]
            exact HVS.out j k (by omega) hkl
        · refine (HI.out.2.2 j (by omega) hjn).kept hg1 ?_
          rw [← HRV.out]
          rcases HVS.out k j (by omega) (by rw [HX.out]; exact hjn) with h | h
          · rw [h]
            cases (vs.getD j nilV).ownBlock with
            | none => exact Or.inl rfl
            | some y => exact Or.inr (by simp)
          · exact Or.inr (Ne.symm h)
      have HG1 : Hid (RngP pp w w1) := HG.out.trans (RngP.ofGrown hg1 HLO.out)
      have HQ1 : Hid (q + rn = 1 + cum xss (k + 1)) := by show _ = _; have := HQ.out; have := HCS.out; omega
      have hrnb : rn ≤ 1048576 := by have h := HL.out _ (mem_getD [] hkl); rw [HRN.out] at h; exact h
      clear ho1 hg1 hkl HI HG
      go_wp2
      go_roundw
      case rel => exact ⟨k + 1, q + rn, by omega, by go_num, by go_num, HQ1, HI1, HG1⟩
      case measure => simp [intOf]; omega
    · obtain rfl : k = n := by omega
      have hq : (q : Int) = 1 + (cum xss k : Nat) := by have := HQ.out; omega
      have HQ2 : Hid ((q : Int) = 1 + (cum xss k : Nat)) := hq
      clear hq
      go_wp2
      go_ret
      refine ⟨ret_int HQ2.out, ⟨vs, by rw [HVL.out, markL_length], by rw [markL_length]; exact HI.out.1, fun j hj => ?_, fun i j hij hj => HVS.out i j hij (by rw [markL_length] at hj; exact hj), HV1.out, fun j hj => HV2.out j (by rw [markL_length] at hj; exact hj)⟩, HG.out⟩
      rw [markL_length] at hj
      rw [markL_getD hj]
      exact HI.out.2.1 j (by rw [HX.out] at hj; exact hj)

set_option maxHeartbeats 2000000 in
theorem heldIP_c (ao : Option Addr) (n c lo : Nat) (pp : Nat → Prop) (xss : List (List Int)) (w : World) (hx : xss.length = n) (hn : n ≤ 1048576) (hl : ∀ l ∈ xss, l.length ≤ 1048576) (ho : OwnIP w lo pp (.slice ao n c) (markL xss)) :
    Calls Try.prog 50 #[.slice ao n c, .int .i64 1] w fun e w' => e = .returned (.int .i64 (1 + (cum xss n : Nat))) ∧ Below w.heap.size w w' := by
  have HX : Hid (xss.length = n) := hx
  have HL : Hid (∀ l ∈ xss, l.length ≤ 1048576) := hl
  have HO : Hid (OwnIP w lo pp (.slice ao n c) (markL xss)) := ho
  have HC : Hid (∀ j, j ≤ n → cum xss j ≤ 1099511627776) := fun j hj => Nat.le_trans (cum_le hl j (by omega)) (by have : j * 1048576 ≤ 1048576 * 1048576 := Nat.mul_le_mul_right _ (by omega); omega)
  clear hx hl ho
  go_enter Try.func50, Try.ntmps50
  go_wp2
  go_loopw [1, 5] (fun kv iv wr => ∃ (k q : Nat), k ≤ n ∧ iv = .int .i64 k ∧ kv = .int .i64 q ∧ Hid (q = 1 + cum xss k) ∧ Hid (Below w.heap.size w wr)) (fun _ iv _ => n - (intOf iv).toNat)
  case atStart => exact ⟨0, 1, Nat.zero_le _, rfl, rfl, by show _ = _; simp [cum], Below.refl _ _⟩
  case round =>
    obtain ⟨k, q, hk, rfl, rfl, HQ, HB⟩ := hrel
    by_cases hlt : k < n
    · have hkl : k < xss.length := by rw [HX.out]; exact hlt
      obtain ⟨vs, hvl, hvo, hvi, _⟩ := HO.out.later HB.out
      rw [markL_length] at hvl hvo hvi
      have hok := hvi k hkl
      rw [markL_getD hkl] at hok
      obtain ⟨gb, gcap, hao, g1⟩ : ∃ g cc, ao = some ⟨g, 0, none⟩ ∧ wr.cell? ⟨g, k, none⟩ = some (vs.getD k nilV) := by
        rcases hvo.2 with ⟨h0, h1⟩ | ⟨g, cap, cur, hv, _⟩
        · omega
        · have e := hv
          simp only [Value.slice.injEq] at e
          refine ⟨g, cap, e.1, ?_⟩
          have hc := World.ownsRow.cellAt (g := g) (cap := c) (n := xss.length) (by have h := hvo; rw [e.1, HX.out] at h; rw [HX.out]; exact h) k (by omega)
          rw [hc, List.getElem?_eq_getElem (by rw [hvl]; exact hkl)]
          simp [List.getD, show k < vs.length by rw [hvl]; exact hkl]
      subst hao
      have hlk := HL.out _ (mem_getD [] hkl)
      have hcs := cum_succ hkl
      have hcb := HC.out (k + 1) (by omega)
      obtain ⟨ra, rcc, hrv⟩ := hok.shape
      obtain ⟨rn, hrn⟩ : ∃ rn, (xss.getD k []).length = rn := ⟨_, rfl⟩
      rw [hrn] at hrv hlk hcs hok
      rw [marks_length] at hrv
      have hq : (1 : Int) + (cum xss k : Nat) = q := by have := HQ.out; omega
      rw [hq, hrv] at hok
      have q1 := heldIntS_c ra rn rcc (q : Int) lo wr (by omega) (by omega) (by have := HQ.out; omega) hok
      have HCS : Hid (cum xss (k + 1) = cum xss k + rn) := hcs
      rw [hrv] at g1
      have hqb : q ≤ 1099511627777 := by have := HQ.out; have := HC.out k (by omega); omega
      have hqn : ¬ ((q : Int) + (rn : Int) < 0) := by omega
      clear hok hvo hvi hvl hkl hcs hcb hrv hrn hq
      have k0 : (0 : Int) ≤ (k : Int) := by omega
      have k1 : (k : Int) < (n : Int) := by omega
      go_wp2_with fail
      refine q1.mono ?_
      clear q1
      rintro e w1 ⟨rfl, hb1⟩
      have HB1 : Hid (Below w.heap.size w w1) := by show Below _ _ _; rw [hb1]; exact HB.out
      have HQ1 : Hid (q + rn = 1 + cum xss (k + 1)) := by show _ = _; have := HQ.out; have := HCS.out; omega
      clear hb1 HB
      go_wp2
      go_roundw
      case rel => exact ⟨k + 1, q + rn, by omega, by go_num, by go_num, HQ1, HB1⟩
      case measure => simp [intOf]; omega
    · obtain rfl : k = n := by omega
      have HQ2 : Hid ((q : Int) = 1 + (cum xss k : Nat)) := by show _ = _; have := HQ.out; omega
      go_wp2
      go_ret
      exact ⟨ret_int HQ2.out, HB.out⟩


set_option maxHeartbeats 2000000 in
theorem toII_c (ao : Option Addr) (n c : Nat) (xss : List (List Int)) (w : World) (hx : xss.length = n) (hn : n ≤ 1048576) (hl : ∀ l ∈ xss, l.length ≤ 1048576) (hr : RdII w ao xss) :
    Calls Try.prog 80 #[.slice ao n c] w fun e w' => ∃ a' c', e = .returned (.slice a' n c') ∧ OwnII w' w.heap.size (.slice a' n c') xss ∧ Below w.heap.size w w' := by
  obtain ⟨i0, hi, hz0, hz1, hz2⟩ := info_parts Try.infoInts
  have HX : Hid (xss.length = n) := hx
  have HR : Hid (RdII w ao xss) := hr
  have HL : Hid (∀ l ∈ xss, l.length ≤ 1048576) := hl
  clear hx hr hl
  go_enter Try.func80, Try.ntmps80
  go_wp2_with (at_make; refine wpList_make_full _ rfl _ _ 23 rfl w.heap.size 24 i0 (.slice none 0 0) 1 Try.underlying23 hi hz0 hz1 _ _ _ _ n rfl rfl rfl rfl (by rw [hz2]; omega) (by unfold maxLen; omega) (Nat.le_refl _) ?_; intro w0 hown0 hgrow0)
  have hb0 : Below w.heap.size w w0 := (Below.refl _ _).grown hgrow0 (Nat.le_refl _) (fun k h => by cases h)
  have hlt0 : w.heap.size < w0.heap.size := by
    rcases hown0.2 with ⟨h, _⟩ | ⟨g, cap, cur, hv, _, hg, _⟩
    · simp at h
    · simp only [Value.slice.injEq, Option.some.injEq, Addr.mk.injEq] at hv
      obtain ⟨⟨rfl, _⟩, _⟩ := hv
      exact (Array.getElem?_eq_some_iff.1 hg).1
  have HO : Hid (∃ vs : List Value, vs.length = n ∧ w0.ownsRow w.heap.size 24 1 (.slice (some ⟨w.heap.size, 0, none⟩) n n) n vs ∧ (∀ j, j < 0 → Own w0 (w.heap.size + 1) (vs.getD j nilV) (xss.getD j [])) ∧ ∀ i j, i < j → j < 0 → sepB (vs.getD i nilV) (vs.getD j nilV)) := ⟨List.replicate n nilV, by simp, by
    have e : (madeCells (Value.slice none 0 0).cells (n * 1)).toList = List.replicate n nilV := by
      rw [Nat.mul_one]
      exact toList_madeCells_one _ _
    rw [← e]; exact hown0, fun j h => absurd h (by omega), fun i j h h2 => absurd h2 (by omega)⟩
  have HB0 : Hid (Below w.heap.size w w0 ∧ w.heap.size < w0.heap.size) := ⟨hb0, hlt0⟩
  clear hown0 hgrow0 hb0 hlt0
  go_wp2
  go_loopw [4] (fun i wr => ∃ k : Nat, k ≤ n ∧ i = .int .i64 k ∧ Hid (∃ vs : List Value, vs.length = n ∧ wr.ownsRow w.heap.size 24 1 (.slice (some ⟨w.heap.size, 0, none⟩) n n) n vs ∧ (∀ j, j < k → Own wr (w.heap.size + 1) (vs.getD j nilV) (xss.getD j [])) ∧ ∀ i j, i < j → j < k → sepB (vs.getD i nilV) (vs.getD j nilV)) ∧ Hid (Below w.heap.size w wr ∧ w.heap.size < wr.heap.size)) (fun i _ => n - (intOf i).toNat)
  case atStart => exact ⟨0, Nat.zero_le _, rfl, HO, HB0⟩
  case round =>
    clear HO HB0
    obtain ⟨k, hk, rfl, hO, HB⟩ := hrel
    by_cases hlt : k < n
    · have hkl : k < xss.length := by rw [HX.out]; exact hlt
      obtain ⟨b, o, ro, rc, rfl, g1, hro⟩ := (HR.out.later HB.out.1).get hkl
      have hlk := HL.out _ (mem_getD [] hkl)
      have k0 : (0 : Int) ≤ (k : Int) := by omega
      have k1 : (k : Int) < (n : Int) := by omega
      generalize hrow : xss.getD k [] = row at g1 hro hlk
      have HRW : Hid (xss.getD k [] = row) := hrow
      obtain ⟨rn, hrn⟩ : ∃ rn, row.length = rn := ⟨_, rfl⟩
      rw [hrn] at g1 hlk
      have q1 := toIntS_c ro rn rc row wr hrn (by omega) hro
      clear hkl hlk hrow hro
      go_wp2_with fail
      refine q1.mono ?_
      clear q1
      rintro e w1 ⟨a1, c1, rfl, ho1, hb1⟩
      obtain ⟨vs, hvl, hvo, hvi, hvs⟩ := hO.out
      have hvo1 := rowLater hvo hb1
      have g2 : w1.cell? ⟨w.heap.size, k, none⟩ = some (vs.getD k nilV) := by
        rw [World.ownsRow.cellAt hvo1 k (by omega), List.getElem?_eq_getElem (by omega)]
        simp [List.getD, show k < vs.length by omega]
      have g3 : w1.frozen? ⟨w.heap.size, k, none⟩ = false := World.ownsRow.frozenAt hvo1 k
      have hst := World.ownsRow.stored hvo1 k (.slice a1 rn c1)
      have HZ : Hid (w.heap.size < wr.heap.size) := HB.out.2
      have HS : Hid (∃ us : List Value, us.length = n ∧ (w1.setCell ⟨w.heap.size, k, none⟩ (.slice a1 rn c1)).ownsRow w.heap.size 24 1 (.slice (some ⟨w.heap.size, 0, none⟩) n n) n us ∧ (∀ j, j < k + 1 → Own (w1.setCell ⟨w.heap.size, k, none⟩ (.slice a1 rn c1)) (w.heap.size + 1) (us.getD j nilV) (xss.getD j [])) ∧ ∀ i j, i < j → j < k + 1 → sepB (us.getD i nilV) (us.getD j nilV)) := by
        have hne : ∀ j, j ≠ k → (vs.set k (.slice a1 rn c1)).getD j nilV = vs.getD j nilV := fun j hj => by simp [List.getD, List.getElem?_set, Ne.symm hj]
        have heq : (vs.set k (.slice a1 rn c1)).getD k nilV = .slice a1 rn c1 := by simp [List.getD, show k < vs.length by omega]
        refine ⟨vs.set k (.slice a1 rn c1), by simpa using hvl, hst.1, fun j hj => ?_, fun i j hij hj => ?_⟩
        · by_cases e : j = k
          · subst e
            rw [heq, HRW.out]
            exact (ho1.mono (by have := HZ.out; omega)).setBox (by omega) _
          · rw [hne j e]
            exact ((hvi j (by omega)).later hb1).setBox (by omega) _
        · by_cases e : j = k
          · subst e
            rw [heq, hne i (by omega)]
            rcases Option.eq_none_or_eq_some (vs.getD i nilV).ownBlock with e1 | ⟨x, e1⟩
            · exact Or.inl e1
            · refine Or.inr fun e2 => ?_
              have h1 := (World.ownsRow.lt (hvi i hij) x e1).2
              have h2 := (World.ownsRow.lt ho1 x (e2.symm.trans e1)).1
              omega
          · rw [hne j e, hne i (by omega)]
            exact hvs i j hij (by omega)
      have HB1 : Hid (Below w.heap.size w (w1.setCell ⟨w.heap.size, k, none⟩ (.slice a1 rn c1)) ∧ w.heap.size < (w1.setCell ⟨w.heap.size, k, none⟩ (.slice a1 rn c1)).heap.size) := ⟨(HB.out.1.trans (hb1.mono HB.out.1.size)).setCell (p := ⟨w.heap.size, k, none⟩) (Nat.le_refl _) _, by simp; have := HB.out.2; have := hb1.size; omega⟩
      generalize vs.getD k nilV = y at g2
      clear hvo hvo1 hst hvi hvs hvl hb1 ho1 hO HB HZ g1 hrn
      go_wp2
      go_roundw
      case rel => exact ⟨k + 1, by omega, by go_num, HS, HB1⟩
      case measure => simp [intOf]; omega
    · obtain rfl : k = n := by omega
      go_wp2
      go_ret
      obtain ⟨vs, hvl, hvo, hvi, hvs⟩ := hO.out
      refine ⟨_, _, rfl, ⟨vs, by rw [HX.out]; exact hvl, by rw [HX.out]; exact hvo, fun j hj => (hvi j (by rw [HX.out] at hj; exact hj)).mono (by omega), fun i j hij hj => hvs i j hij (by rw [HX.out] at hj; exact hj)⟩, HB.out.1⟩

theorem szInt_c (ao : Option Addr) (n cap : Nat) (left : Int) (w : World) (hn : n ≤ 9223372036854775807) (h0 : -1 ≤ left) (h1 : left ≤ 1048576) :
    Calls Try.prog 79 #[.slice ao n cap, .int .i64 left] w fun e w' => e = .returned (.int .i64 (if left < (n : Int) then -1 else left - n)) ∧ w' = w := by
  by_cases h : left < (n : Int)
  · rw [if_pos h]
    have hlt : left - (n : Int) < 0 := by omega
    go_enter Try.func79, Try.ntmps79
    go_wp2
    go_ret
    exact ⟨rfl, rfl⟩
  · rw [if_neg h]
    have hge : ¬ left - (n : Int) < 0 := by omega
    go_enter Try.func79, Try.ntmps79
    go_wp2
    go_ret
    exact ⟨rfl, rfl⟩

/-- The size of a list of ints, as it is told. -/
theorem szIntL_c (ao : Option Addr) (n c left : Nat) (w : World) (hn : n ≤ 9223372036854775807) (hl : left ≤ 1048576) :
    Calls Try.prog 79 #[.slice ao n c, .int .i64 left] w fun e w' => ∃ r : Int, e = .returned (.int .i64 r) ∧ w' = w ∧ r ≤ 1048576 ∧ (0 ≤ r → n ≤ 1048576) := by
  refine (szInt_c ao n c left w hn (by omega) (by omega)).mono ?_
  rintro e w' ⟨rfl, hw⟩
  refine ⟨_, rfl, hw, ?_, fun h => ?_⟩
  · split <;> omega
  · split at h <;> omega

set_option maxHeartbeats 1000000 in
theorem szII_c (ao : Option Addr) (n c : Nat) (xss : List (List Int)) (w : World) (hx : xss.length = n) (hn : n ≤ 9223372036854775807) (hr : RdII w ao xss) (hl : ∀ l ∈ xss, l.length ≤ 9223372036854775807) :
    Calls Try.prog 78 #[.slice ao n c, .int .i64 1048576] w fun e w' => ∃ r : Int, e = .returned (.int .i64 r) ∧ w' = w ∧ r ≤ 1048576 ∧ (0 ≤ r → n ≤ 1048576 ∧ ∀ l ∈ xss, l.length ≤ 1048576) := by
  have HX : Hid (xss.length = n) := hx
  have HR : Hid (RdII w ao xss) := hr
  have HL : Hid (∀ l ∈ xss, l.length ≤ 9223372036854775807) := hl
  clear hx hr hl
  by_cases h1 : 1048576 < n
  · have h2 : (1048576 : Int) - n < 0 := by omega
    go_enter Try.func78, Try.ntmps78
    go_wp2
    go_ret
    exact ⟨-1, rfl, rfl, by omega, fun h => by omega⟩
  · have h2 : ¬ (1048576 : Int) - n < 0 := by omega
    have hnn : n ≤ 1048576 := by omega
    go_enter Try.func78, Try.ntmps78
    go_wp2
    go_loop [1, 5] (fun lv iv => ∃ (k q : Nat), k ≤ n ∧ iv = .int .i64 k ∧ lv = .int .i64 q ∧ q ≤ 1048576 ∧ Hid (∀ j, j < k → (xss.getD j []).length ≤ 1048576)) (fun _ iv => n - (intOf iv).toNat)
    case atStart => exact ⟨0, 1048576 - n, Nat.zero_le _, rfl, by go_num, by omega, fun j h => absurd h (by omega)⟩
    case round =>
      obtain ⟨k, q, hk, rfl, rfl, hq, HS⟩ := hrel
      by_cases hlt : k < n
      · have hkl : k < xss.length := by rw [HX.out]; exact hlt
        obtain ⟨b, o, ro, rc, rfl, g1, hro⟩ := HR.out.get hkl
        have hlk := HL.out _ (mem_getD [] hkl)
        have hS2 : ∀ r : Int, 0 ≤ r → (0 ≤ r → (xss.getD k []).length ≤ 1048576) → ∀ j, j < k + 1 → (xss.getD j []).length ≤ 1048576 := fun r h0 h j hj => by
          by_cases e : j = k
          · rw [e]; exact h h0
          · exact HS.out j (by omega)
        have HS2 : Hid (∀ r : Int, 0 ≤ r → (0 ≤ r → (xss.getD k []).length ≤ 1048576) → ∀ j, j < k + 1 → (xss.getD j []).length ≤ 1048576) := hS2
        have k0 : (0 : Int) ≤ (k : Int) := by omega
        have k1 : (k : Int) < (n : Int) := by omega
        generalize hrow : xss.getD k [] = row at g1 hro hlk
        have HRW : Hid (xss.getD k [] = row) := hrow
        obtain ⟨rn, hrn⟩ : ∃ rn, row.length = rn := ⟨_, rfl⟩
        rw [hrn] at g1 hlk
        have q1 := szIntL_c ro rn rc q w hlk (by omega)
        have HRN : Hid (row.length = rn) := hrn
        clear hS2 hrow hkl hlk hrn hro
        go_wp2_with fail
        refine q1.mono ?_
        clear q1
        rintro e w' ⟨r, rfl, hw, hr1, hr2⟩
        subst w'
        by_cases hneg : r < 0
        · go_wp2
          go_ret
          exact ⟨-1, rfl, rfl, by omega, fun h => by omega⟩
        · obtain ⟨rq, rfl⟩ : ∃ rq : Nat, r = rq := ⟨r.toNat, by omega⟩
          have HN : Hid (∀ j, j < k + 1 → (xss.getD j []).length ≤ 1048576) := HS2.out rq (by omega) (fun _ => by rw [HRW.out, HRN.out]; exact hr2 (by omega))
          have hrq : rq ≤ 1048576 := by omega
          have hng : ¬ ((rq : Int) < 0) := hneg
          clear hr1 hr2 HS2
          go_wp2
          go_round
          case rel => exact ⟨k + 1, rq, by omega, by go_num, rfl, hrq, HN⟩
          case measure => simp [intOf]; omega
      · obtain rfl : k = n := by omega
        go_wp2
        go_ret
        have hF : ∀ l ∈ xss, l.length ≤ 1048576 := fun l hl => by
          obtain ⟨j, hj, e⟩ := of_mem_getD [] hl
          rw [← e]; exact HS.out j (by rw [HX.out] at hj; exact hj)
        first | exact ⟨q, rfl, rfl, by omega, fun _ => ⟨hnn, hF⟩⟩ | exact ⟨q, rfl, rfl, by omega, hnn, hF⟩ | exact ⟨q, rfl, rfl, by omega, hF⟩ | exact ⟨q, rfl, rfl, by omega, fun _ => hF⟩

end Go.Proofs.Ytheagikallnppaa
