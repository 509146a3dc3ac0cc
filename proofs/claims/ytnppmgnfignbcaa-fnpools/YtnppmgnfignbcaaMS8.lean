/- Chapter 8: PlayMix of both sides whole; lists of lists marked and held. -/
import Derived.Test.YtnppmgnfignbcaaPS8
namespace Go.Proofs.Ytnppmgnfignbcaa
set_option linter.unusedVariables false
set_option maxRecDepth 1000000
set_option linter.unusedSimpArgs false
open Go.RowKit


set_option maxHeartbeats 1000000 in
theorem specPlay_c (ao : Option Addr) (n c : Nat) (a b : Int) (xss : List (List ByteArray)) (w : World) (hx : xss.length = n) (hn : n ≤ 1048576) (hr : RdSS w ao xss) (hl : ∀ l ∈ xss, l.length ≤ 1048576 ∧ ∀ s ∈ l, s.size ≤ 9223372036854775807) (zss : List (List ByteArray)) (fb : Bool) (p : Nat) (hF : playF a b xss = (zss, fb)) (hp : zss.length = p) :
    Calls Try.prog 15 #[.int .i64 a, .int .i64 b, .slice ao n c] w fun e w' => ∃ a' c', e = .returned (.tuple #[.slice a' p c', .bool fb]) ∧ OwnSS w' w.heap.size (.slice a' p c') zss ∧ Below w.heap.size w w' := by
  have hnil : ∀ w' : World, OwnSS w' w.heap.size (.slice none 0 0) [] := fun w' => ⟨[], rfl, World.ownsRow_nil _ _ _ _, fun j h => absurd h (by simp), fun i j _ h => absurd h (by simp)⟩
  unfold playF at hF
  rw [hx] at hF
  by_cases h : newB a b = true ∧ n ≤ 20
  · rw [if_pos h] at hF
    refine (specPlay_go ao n c a b xss w hx h.2 h.1 hr hl _ rfl).mono ?_
    rintro e w' ⟨h1, h2⟩
    cases hM : playM ⟨[], a, b, 0, []⟩ xss with
    | none =>
      rw [hM] at h1 hF
      simp only [Prod.mk.injEq] at hF
      obtain ⟨rfl, rfl⟩ := hF
      simp at hp
      subst hp
      exact ⟨none, 0, h1, hnil _, h2⟩
    | some o =>
      rw [hM] at h1 hF
      simp only [Prod.mk.injEq] at hF
      obtain ⟨rfl, rfl⟩ := hF
      obtain ⟨a', c', he, ho⟩ := h1
      rw [hp] at he ho
      exact ⟨a', c', he, ho, h2⟩
  · rw [if_neg h] at hF
    simp only [Prod.mk.injEq] at hF
    obtain ⟨rfl, rfl⟩ := hF
    simp at hp
    subst hp
    have q0 := specNew_c a b w
    have HNIL : Hid (∀ w' : World, OwnSS w' w.heap.size (.slice none 0 0) []) := hnil
    cases hb : newB a b with
    | false =>
      rw [hb] at q0
      generalize (newM a b).least = la at q0
      generalize (newM a b).wait = lw at q0
      clear hr hl hx h hb hnil
      go_enter Try.func15, Try.ntmps15
      go_wp2_with fail
      refine q0.mono ?_
      clear q0
      rintro e w1 ⟨rfl, hb1⟩
      have HB1 : Hid (Below w.heap.size w (w1.alloc (.cells #[.slice none 0 0, .int .i64 la, .int .i64 lw, .int .i64 0, .slice none 0 0] 41))) := hb1.alloc hb1.size _
      clear hb1
      go_wp2
      refine bodyPost_ret (v := .tuple #[.slice none 0 0, .bool false]) (by simp [results, Try.results15, go_sem]; try rfl) rfl ?_
      exact ⟨none, 0, rfl, HNIL.out _, HB1.out⟩
    | true =>
      have h20 : (20 : Int) < (n : Int) := by
        by_cases e : n ≤ 20
        · exact absurd ⟨hb, e⟩ h
        · omega
      rw [hb] at q0
      generalize (newM a b).least = la at q0
      generalize (newM a b).wait = lw at q0
      clear hr hl hx h hb hnil
      go_enter Try.func15, Try.ntmps15
      go_wp2_with fail
      refine q0.mono ?_
      clear q0
      rintro e w1 ⟨rfl, hb1⟩
      have HB1 : Hid (Below w.heap.size w (w1.alloc (.cells #[.slice none 0 0, .int .i64 la, .int .i64 lw, .int .i64 0, .slice none 0 0] 41))) := hb1.alloc hb1.size _
      clear hb1
      go_wp2
      refine bodyPost_ret (v := .tuple #[.slice none 0 0, .bool false]) (by simp [results, Try.results15, go_sem]; try rfl) rfl ?_
      exact ⟨none, 0, rfl, HNIL.out _, HB1.out⟩

set_option maxHeartbeats 1000000 in
theorem implPlay_c (ao : Option Addr) (n c : Nat) (a b : Int) (xss : List (List ByteArray)) (w : World) (hx : xss.length = n) (hn : n ≤ 1048576) (hr : RdSS w ao xss) (hl : ∀ l ∈ xss, l.length ≤ 1048576 ∧ ∀ s ∈ l, s.size ≤ 9223372036854775807) (zss : List (List ByteArray)) (fb : Bool) (p : Nat) (hF : playF a b xss = (zss, fb)) (hp : zss.length = p) :
    Calls Try.prog 14 #[.int .i64 a, .int .i64 b, .slice ao n c] w fun e w' => ∃ a' c', e = .returned (.tuple #[.slice a' p c', .bool fb]) ∧ OwnSS w' w.heap.size (.slice a' p c') zss ∧ Below w.heap.size w w' := by
  have hnil : ∀ w' : World, OwnSS w' w.heap.size (.slice none 0 0) [] := fun w' => ⟨[], rfl, World.ownsRow_nil _ _ _ _, fun j h => absurd h (by simp), fun i j _ h => absurd h (by simp)⟩
  unfold playF at hF
  rw [hx] at hF
  by_cases h : newB a b = true ∧ n ≤ 20
  · rw [if_pos h] at hF
    refine (implPlay_go ao n c a b xss w hx h.2 h.1 hr hl _ rfl).mono ?_
    rintro e w' ⟨h1, h2⟩
    cases hM : playM ⟨[], a, b, 0, []⟩ xss with
    | none =>
      rw [hM] at h1 hF
      simp only [Prod.mk.injEq] at hF
      obtain ⟨rfl, rfl⟩ := hF
      simp at hp
      subst hp
      exact ⟨none, 0, h1, hnil _, h2⟩
    | some o =>
      rw [hM] at h1 hF
      simp only [Prod.mk.injEq] at hF
      obtain ⟨rfl, rfl⟩ := hF
      obtain ⟨a', c', he, ho⟩ := h1
      rw [hp] at he ho
      exact ⟨a', c', he, ho, h2⟩
  · rw [if_neg h] at hF
    simp only [Prod.mk.injEq] at hF
    obtain ⟨rfl, rfl⟩ := hF
    simp at hp
    subst hp
    have q0 := implNew_c a b w
    have HNIL : Hid (∀ w' : World, OwnSS w' w.heap.size (.slice none 0 0) []) := hnil
    cases hb : newB a b with
    | false =>
      rw [hb] at q0
      generalize (newM a b).least = la at q0
      generalize (newM a b).wait = lw at q0
      clear hr hl hx h hb hnil
      go_enter Try.func14, Try.ntmps14
      go_wp2_with fail
      refine q0.mono ?_
      clear q0
      rintro e w1 ⟨rfl, hb1⟩
      have HB1 : Hid (Below w.heap.size w (w1.alloc (.cells #[.slice none 0 0, .int .i64 la, .int .i64 lw, .int .i64 0, .slice none 0 0] 41))) := hb1.alloc hb1.size _
      clear hb1
      go_wp2
      refine bodyPost_ret (v := .tuple #[.slice none 0 0, .bool false]) (by simp [results, Try.results14, go_sem]; try rfl) rfl ?_
      exact ⟨none, 0, rfl, HNIL.out _, HB1.out⟩
    | true =>
      have h20 : (20 : Int) < (n : Int) := by
        by_cases e : n ≤ 20
        · exact absurd ⟨hb, e⟩ h
        · omega
      rw [hb] at q0
      generalize (newM a b).least = la at q0
      generalize (newM a b).wait = lw at q0
      clear hr hl hx h hb hnil
      go_enter Try.func14, Try.ntmps14
      go_wp2_with fail
      refine q0.mono ?_
      clear q0
      rintro e w1 ⟨rfl, hb1⟩
      have HB1 : Hid (Below w.heap.size w (w1.alloc (.cells #[.slice none 0 0, .int .i64 la, .int .i64 lw, .int .i64 0, .slice none 0 0] 41))) := hb1.alloc hb1.size _
      clear hb1
      go_wp2
      refine bodyPost_ret (v := .tuple #[.slice none 0 0, .bool false]) (by simp [results, Try.results14, go_sem]; try rfl) rfl ?_
      exact ⟨none, 0, rfl, HNIL.out _, HB1.out⟩

/-- Nothing outside the blocks from lo up to hi has turned. -/
structure Rng (lo hi : Nat) (w w' : World) : Prop where
  os : w'.os = w.os
  tape : w'.tape = w.tape
  output : w'.output = w.output
  size : w.heap.size ≤ w'.heap.size
  block : ∀ q, q < w.heap.size → (q < lo ∨ hi ≤ q) → w'.heap[q]? = w.heap[q]?
theorem Rng.refl (lo hi : Nat) (w : World) : Rng lo hi w w := ⟨rfl, rfl, rfl, Nat.le_refl _, fun _ _ _ => rfl⟩
theorem Rng.trans {lo hi : Nat} {w a b : World} (h : Rng lo hi w a) (k : Rng lo hi a b) : Rng lo hi w b := ⟨k.os.trans h.os, k.tape.trans h.tape, k.output.trans h.output, Nat.le_trans h.size k.size, fun q hq ho => (k.block q (Nat.lt_of_lt_of_le hq h.size) ho).trans (h.block q hq ho)⟩
theorem Rng.ofGrown {lo hi : Nat} {w w' : World} {row : Option Nat} (h : w.grownBy w' row) (hr : ∀ k, row = some k → lo ≤ k ∧ k < hi) : Rng lo hi w w' := ⟨h.os, h.tape, h.output, h.size, fun q hq ho => h.block q hq (fun e => by have := hr q e.symm; omega)⟩
theorem Rng.below {lo hi B : Nat} {w w' : World} (h : Rng lo hi w w') (h1 : B ≤ lo) (h2 : B ≤ w.heap.size) : Below B w w' := ⟨h.os, h.tape, h.output, h.size, fun q hq => h.block q (by omega) (Or.inl (by omega))⟩
/-- A row of rows whose blocks lie from lo up to hi. -/
def OwnSR (w : World) (lo hi : Nat) (v : Value) (xss : List (List ByteArray)) : Prop :=
  ∃ vs : List Value, vs.length = xss.length ∧ w.ownsRow lo 29 1 v xss.length vs ∧ (∀ j, j < xss.length → OwnS w lo (vs.getD j nilV) (xss.getD j [])) ∧ (∀ i j, i < j → j < xss.length → sepB (vs.getD i nilV) (vs.getD j nilV)) ∧ (∀ k, v.ownBlock = some k → k < hi) ∧ ∀ j, j < xss.length → ∀ k, (vs.getD j nilV).ownBlock = some k → k < hi
theorem OwnSS.toR {w : World} {base : Nat} {v : Value} {xss : List (List ByteArray)} (h : OwnSS w base v xss) : OwnSR w base w.heap.size v xss := by
  obtain ⟨vs, hl, ho, hi, hs⟩ := h
  exact ⟨vs, hl, ho, hi, hs, fun k e => (World.ownsRow.lt ho k e).2, fun j hj k e => (World.ownsRow.lt (hi j hj) k e).2⟩
theorem OwnSR.toS {w : World} {lo hi : Nat} {v : Value} {xss : List (List ByteArray)} (h : OwnSR w lo hi v xss) : OwnSS w lo v xss := by
  obtain ⟨vs, hl, ho, hi, hs, _⟩ := h
  exact ⟨vs, hl, ho, hi, hs⟩
theorem OwnSR.later {w w' : World} {lo hi : Nat} {v : Value} {xss : List (List ByteArray)} (h : OwnSR w lo hi v xss) (hb : Below w.heap.size w w') : OwnSR w' lo hi v xss := by
  obtain ⟨vs, hl, ho, hi, hs, h1, h2⟩ := h
  exact ⟨vs, hl, rowLater ho hb, fun j hj => (hi j hj).later hb, hs, h1, h2⟩
theorem OwnSR.rng {w w' : World} {lo hi lo2 hi2 : Nat} {v : Value} {xss : List (List ByteArray)} (h : OwnSR w lo hi v xss) (hr : Rng lo2 hi2 w w') (hd : hi ≤ lo2 ∨ hi2 ≤ lo) : OwnSR w' lo hi v xss := by
  obtain ⟨vs, hl, ho, hin, hs, h1, h2⟩ := h
  have hg : ∀ g, lo ≤ g → g < hi → g < w.heap.size → w'.heap[g]? = w.heap[g]? := fun g a b c => hr.block g c (by omega)
  refine ⟨vs, hl, ?_, fun j hj => ?_, hs, h1, h2⟩
  · refine ⟨ho.1, ?_⟩
    rcases ho.2 with h0 | ⟨g, cap, cur, hv, hlo, hh, r⟩
    · exact Or.inl h0
    · exact Or.inr ⟨g, cap, cur, hv, hlo, by rw [hg g hlo (h1 g (by rw [hv]; rfl)) (Array.getElem?_eq_some_iff.1 hh).1]; exact hh, r⟩
  · refine ⟨(hin j hj).1, ?_⟩
    rcases (hin j hj).2 with h0 | ⟨g, cap, cur, hv, hlo, hh, r⟩
    · exact Or.inl h0
    · exact Or.inr ⟨g, cap, cur, hv, hlo, by rw [hg g hlo (h2 j hj g (by rw [hv]; rfl)) (Array.getElem?_eq_some_iff.1 hh).1]; exact hh, r⟩

/-- How many texts stand ahead of row j. -/
def cum (xss : List (List ByteArray)) (j : Nat) : Nat := ((xss.take j).map List.length).sum
theorem cum_succ {xss : List (List ByteArray)} {j : Nat} (h : j < xss.length) : cum xss (j + 1) = cum xss j + (xss.getD j []).length := by
  unfold cum
  rw [take_snoc [] h, List.map_append, List.sum_append]; simp
theorem cum_le {xss : List (List ByteArray)} {M : Nat} (hl : ∀ l ∈ xss, l.length ≤ M) : ∀ j, j ≤ xss.length → cum xss j ≤ j * M
  | 0, _ => by simp [cum]
  | j + 1, h => by
    have h1 := cum_le hl j (by omega)
    have h2 := hl _ (mem_getD [] (show j < xss.length by omega))
    rw [cum_succ (show j < xss.length by omega), Nat.add_mul]; omega
/-- All rows marked, from 1 on. -/
def markL (xss : List (List ByteArray)) : List (List ByteArray) := (List.range xss.length).map fun j => marksS (1 + (cum xss j : Nat)) (xss.getD j []).length
theorem markL_length (xss : List (List ByteArray)) : (markL xss).length = xss.length := by simp [markL]
theorem markL_getD {xss : List (List ByteArray)} {j : Nat} (h : j < xss.length) : (markL xss).getD j [] = marksS (1 + (cum xss j : Nat)) (xss.getD j []).length := by simp [markL, List.getD, h]

set_option maxHeartbeats 2000000 in
theorem markSS_c (ao : Option Addr) (n c lo hi : Nat) (xss : List (List ByteArray)) (w : World) (hx : xss.length = n) (hn : n ≤ 1048576) (hl : ∀ l ∈ xss, l.length ≤ 1048576) (ho : OwnSR w lo hi (.slice ao n c) xss) :
    Calls Try.prog 49 #[.slice ao n c, .int .i64 1] w fun e w' => e = .returned (.int .i64 (1 + (cum xss n : Nat))) ∧ OwnSR w' lo hi (.slice ao n c) (markL xss) ∧ Rng lo hi w w' := by
  obtain ⟨vs, hvl, hvo, hvi, hvs, hv1, hv2⟩ := ho
  have HX : Hid (xss.length = n) := hx
  have HL : Hid (∀ l ∈ xss, l.length ≤ 1048576) := hl
  have HVL : Hid (vs.length = xss.length) := hvl
  have HVS : Hid (∀ i j, i < j → j < xss.length → sepB (vs.getD i nilV) (vs.getD j nilV)) := hvs
  have HV1 : Hid (∀ k, (Value.slice ao n c).ownBlock = some k → k < hi) := hv1
  have HV2 : Hid (∀ j, j < xss.length → ∀ k, (vs.getD j nilV).ownBlock = some k → k < hi) := hv2
  have HI0 : Hid (w.ownsRow lo 29 1 (.slice ao n c) xss.length vs ∧ (∀ j, j < 0 → OwnS w lo (vs.getD j nilV) (marksS (1 + (cum xss j : Nat)) (xss.getD j []).length)) ∧ ∀ j, 0 ≤ j → j < n → OwnS w lo (vs.getD j nilV) (xss.getD j [])) := ⟨hvo, fun j h => absurd h (by omega), fun j _ hj => hvi j (by omega)⟩
  have HC : Hid (∀ j, j ≤ n → cum xss j ≤ 1099511627776) := fun j hj => Nat.le_trans (cum_le hl j (by omega)) (by have : j * 1048576 ≤ 1048576 * 1048576 := Nat.mul_le_mul_right _ (by omega); omega)
  clear hx hl hvl hvo hvi hvs hv1 hv2
  go_enter Try.func49, Try.ntmps49
  go_wp2
  go_loopw [1, 5] (fun kv iv wr => ∃ (k q : Nat), k ≤ n ∧ iv = .int .i64 k ∧ kv = .int .i64 q ∧ Hid (q = 1 + cum xss k) ∧ Hid (wr.ownsRow lo 29 1 (.slice ao n c) xss.length vs ∧ (∀ j, j < k → OwnS wr lo (vs.getD j nilV) (marksS (1 + (cum xss j : Nat)) (xss.getD j []).length)) ∧ ∀ j, k ≤ j → j < n → OwnS wr lo (vs.getD j nilV) (xss.getD j [])) ∧ Hid (Rng lo hi w wr)) (fun _ iv _ => n - (intOf iv).toNat)
  case atStart => exact ⟨0, 1, Nat.zero_le _, rfl, rfl, by show _ = _; simp [cum], HI0, Rng.refl _ _ _⟩
  case round =>
    clear HI0
    obtain ⟨k, q, hk, rfl, rfl, HQ, HI, HG⟩ := hrel
    by_cases hlt : k < n
    · have hkl : k < xss.length := by rw [HX.out]; exact hlt
      have hok := HI.out.2.2 k (Nat.le_refl _) hlt
      have hrow := HI.out.1
      obtain ⟨gb, gcap, hao, g1⟩ : ∃ g cc, ao = some ⟨g, 0, none⟩ ∧ wr.cell? ⟨g, k, none⟩ = some (vs.getD k nilV) := by
        rcases hrow.2 with ⟨h0, h1⟩ | ⟨g, cap, cur, hv, _⟩
        · omega
        · have e := hv
          simp only [Value.slice.injEq] at e
          refine ⟨g, cap, e.1, ?_⟩
          have hc := World.ownsRow.cellAt (g := g) (cap := c) (n := xss.length) (by have h := hrow; rw [e.1, HX.out] at h; rw [HX.out]; exact h) k (by omega)
          rw [hc, List.getElem?_eq_getElem (by rw [HVL.out]; exact hkl)]
          simp [List.getD, show k < vs.length by rw [HVL.out]; exact hkl]
      subst hao
      have hlk := HL.out _ (mem_getD [] hkl)
      have hcs := cum_succ hkl
      have hcb := HC.out (k + 1) (by omega)
      have hv2k := HV2.out k hkl
      have hlo := own_block_geS hok
      obtain ⟨ra, rcc, hrv⟩ := hok.shape
      obtain ⟨rn, hrn⟩ : ∃ rn, (xss.getD k []).length = rn := ⟨_, rfl⟩
      rw [hrn] at hrv hlk hcs
      have q1 := markStringS_c ra rn rcc (q : Int) lo (xss.getD k []) wr (by omega) (by omega) (by have := HQ.out; omega) (by rw [← hrv]; exact hok)
      have HRV : Hid (vs.getD k nilV = .slice ra rn rcc) := hrv
      have HRN : Hid ((xss.getD k []).length = rn) := hrn
      have HCS : Hid (cum xss (k + 1) = cum xss k + rn) := hcs
      have HLO : Hid (∀ k', (Value.slice ra rn rcc).ownBlock = some k' → lo ≤ k' ∧ k' < hi) := fun k' e => by rw [← hrv] at e; exact ⟨hlo k' e, hv2k k' e⟩
      rw [hrv] at g1
      have hqb : q ≤ 1099511627777 := by have := HQ.out; have := HC.out k (by omega); omega
      clear hok hrow hkl hlk hcs hcb hv2k hlo hrv hrn
      have k0 : (0 : Int) ≤ (k : Int) := by omega
      have k1 : (k : Int) < (n : Int) := by omega
      go_wp2_with fail
      refine q1.mono ?_
      clear q1
      rintro e w1 ⟨rfl, ho1, hg1⟩
      have hkl : k < xss.length := by rw [HX.out]; exact hlt
      have HI1 : Hid (w1.ownsRow lo 29 1 (.slice (some ⟨gb, 0, none⟩) n c) xss.length vs ∧ (∀ j, j < k + 1 → OwnS w1 lo (vs.getD j nilV) (marksS (1 + (cum xss j : Nat)) (xss.getD j []).length)) ∧ ∀ j, k + 1 ≤ j → j < n → OwnS w1 lo (vs.getD j nilV) (xss.getD j [])) := by
        have hok := HI.out.2.2 k (Nat.le_refl _) hlt
        refine ⟨World.ownsRow.kept HI.out.1 hg1 ?_, fun j hj => ?_, fun j hj hjn => ?_⟩
        · rw [← HRV.out]
          rcases row_sep hok HI.out.1 with h | h
          · rw [h]
            cases (Value.slice (some ⟨gb, 0, none⟩) n c).ownBlock with
            | none => exact Or.inl rfl
            | some y => exact Or.inr (by simp)
          · exact Or.inr (Ne.symm h)
        · by_cases e : j = k
          · subst e
            rw [HRV.out, HRN.out]
            have hq : (q : Int) = 1 + (cum xss j : Nat) := by have := HQ.out; omega
            rw [← hq]; exact ho1
          · refine (HI.out.2.1 j (by omega)).kept hg1 ?_
            rw [← HRV.out]
            exact HVS.out j k (by omega) hkl
        · refine (HI.out.2.2 j (by omega) hjn).kept hg1 ?_
          rw [← HRV.out]
          rcases HVS.out k j (by omega) (by rw [HX.out]; exact hjn) with h | h
          · rw [h]
            cases (vs.getD j nilV).ownBlock with
            | none => exact Or.inl rfl
            | some y => exact Or.inr (by simp)
          · exact Or.inr (Ne.symm h)
      have HG1 : Hid (Rng lo hi w w1) := HG.out.trans (Rng.ofGrown hg1 HLO.out)
      have HQ1 : Hid (q + rn = 1 + cum xss (k + 1)) := by show _ = _; have := HQ.out; have := HCS.out; omega
      have hrnb : rn ≤ 1048576 := by have h := HL.out _ (mem_getD [] hkl); rw [HRN.out] at h; exact h
      clear ho1 hg1 hkl HI HG
      go_wp2
      go_roundw
      case rel => exact ⟨k + 1, q + rn, by omega, by go_num, by go_num, HQ1, HI1, HG1⟩
      case measure => simp [intOf]; omega
    · obtain rfl : k = n := by omega
      have hq : (q : Int) = 1 + (cum xss k : Nat) := by have := HQ.out; omega
      have HQ2 : Hid ((q : Int) = 1 + (cum xss k : Nat)) := hq
      clear hq
      go_wp2
      go_ret
      refine ⟨ret_int HQ2.out, ⟨vs, by rw [HVL.out, markL_length], by rw [markL_length]; exact HI.out.1, fun j hj => ?_, fun i j hij hj => HVS.out i j hij (by rw [markL_length] at hj; exact hj), HV1.out, fun j hj => HV2.out j (by rw [markL_length] at hj; exact hj)⟩, HG.out⟩
      rw [markL_length] at hj
      rw [markL_getD hj]
      exact HI.out.2.1 j (by rw [HX.out] at hj; exact hj)

set_option maxHeartbeats 2000000 in
theorem heldSS_c (ao : Option Addr) (n c lo hi : Nat) (xss : List (List ByteArray)) (w : World) (hx : xss.length = n) (hn : n ≤ 1048576) (hl : ∀ l ∈ xss, l.length ≤ 1048576) (ho : OwnSR w lo hi (.slice ao n c) (markL xss)) :
    Calls Try.prog 50 #[.slice ao n c, .int .i64 1] w fun e w' => e = .returned (.int .i64 (1 + (cum xss n : Nat))) ∧ Below w.heap.size w w' := by
  have HX : Hid (xss.length = n) := hx
  have HL : Hid (∀ l ∈ xss, l.length ≤ 1048576) := hl
  have HO : Hid (OwnSR w lo hi (.slice ao n c) (markL xss)) := ho
  have HC : Hid (∀ j, j ≤ n → cum xss j ≤ 1099511627776) := fun j hj => Nat.le_trans (cum_le hl j (by omega)) (by have : j * 1048576 ≤ 1048576 * 1048576 := Nat.mul_le_mul_right _ (by omega); omega)
  clear hx hl ho
  go_enter Try.func50, Try.ntmps50
  go_wp2
  go_loopw [1, 5] (fun kv iv wr => ∃ (k q : Nat), k ≤ n ∧ iv = .int .i64 k ∧ kv = .int .i64 q ∧ Hid (q = 1 + cum xss k) ∧ Hid (Below w.heap.size w wr)) (fun _ iv _ => n - (intOf iv).toNat)
  case atStart => exact ⟨0, 1, Nat.zero_le _, rfl, rfl, by show _ = _; simp [cum], Below.refl _ _⟩
  case round =>
    obtain ⟨k, q, hk, rfl, rfl, HQ, HB⟩ := hrel
    by_cases hlt : k < n
    · have hkl : k < xss.length := by rw [HX.out]; exact hlt
      obtain ⟨vs, hvl, hvo, hvi, _⟩ := HO.out.later HB.out
      rw [markL_length] at hvl hvo hvi
      have hok := hvi k hkl
      rw [markL_getD hkl] at hok
      obtain ⟨gb, gcap, hao, g1⟩ : ∃ g cc, ao = some ⟨g, 0, none⟩ ∧ wr.cell? ⟨g, k, none⟩ = some (vs.getD k nilV) := by
        rcases hvo.2 with ⟨h0, h1⟩ | ⟨g, cap, cur, hv, _⟩
        · omega
        · have e := hv
          simp only [Value.slice.injEq] at e
          refine ⟨g, cap, e.1, ?_⟩
          have hc := World.ownsRow.cellAt (g := g) (cap := c) (n := xss.length) (by have h := hvo; rw [e.1, HX.out] at h; rw [HX.out]; exact h) k (by omega)
          rw [hc, List.getElem?_eq_getElem (by rw [hvl]; exact hkl)]
          simp [List.getD, show k < vs.length by rw [hvl]; exact hkl]
      subst hao
      have hlk := HL.out _ (mem_getD [] hkl)
      have hcs := cum_succ hkl
      have hcb := HC.out (k + 1) (by omega)
      obtain ⟨ra, rcc, hrv⟩ := hok.shape
      obtain ⟨rn, hrn⟩ : ∃ rn, (xss.getD k []).length = rn := ⟨_, rfl⟩
      rw [hrn] at hrv hlk hcs hok
      rw [marksS_length] at hrv
      have hq : (1 : Int) + (cum xss k : Nat) = q := by have := HQ.out; omega
      rw [hq, hrv] at hok
      have q1 := heldStringS_c ra rn rcc (q : Int) lo wr (by omega) (by omega) (by have := HQ.out; omega) hok
      have HCS : Hid (cum xss (k + 1) = cum xss k + rn) := hcs
      rw [hrv] at g1
      have hqb : q ≤ 1099511627777 := by have := HQ.out; have := HC.out k (by omega); omega
      have hqn : ¬ ((q : Int) + (rn : Int) < 0) := by omega
      clear hok hvo hvi hvl hkl hcs hcb hrv hrn hq
      have k0 : (0 : Int) ≤ (k : Int) := by omega
      have k1 : (k : Int) < (n : Int) := by omega
      go_wp2_with fail
      refine q1.mono ?_
      clear q1
      rintro e w1 ⟨rfl, hb1⟩
      have HB1 : Hid (Below w.heap.size w w1) := HB.out.trans (hb1.mono HB.out.size)
      have HQ1 : Hid (q + rn = 1 + cum xss (k + 1)) := by show _ = _; have := HQ.out; have := HCS.out; omega
      clear hb1 HB
      go_wp2
      go_roundw
      case rel => exact ⟨k + 1, q + rn, by omega, by go_num, by go_num, HQ1, HB1⟩
      case measure => simp [intOf]; omega
    · obtain rfl : k = n := by omega
      have HQ2 : Hid ((q : Int) = 1 + (cum xss k : Nat)) := by show _ = _; have := HQ.out; omega
      go_wp2
      go_ret
      exact ⟨ret_int HQ2.out, HB.out⟩

end Go.Proofs.Ytnppmgnfignbcaa
