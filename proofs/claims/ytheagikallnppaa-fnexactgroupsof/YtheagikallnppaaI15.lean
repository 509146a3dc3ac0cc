/- Chapter 15: lists of lists of ints: the helpers of the laws over them. -/
import Derived.Test.YtheagikallnppaaA15
import Derived.Deep.RegionWith
namespace Go.Proofs.Ytheagikallnppaa
set_option linter.unusedVariables false
set_option maxRecDepth 1000000
set_option linter.unusedSimpArgs false
open Go.RowKit


theorem Try.infoInts : (Try.prog.info? 24).map (fun i => (i.zero, i.size, i.bytes)) = some (some (.slice none 0 0), 1, 24) := by kernel_rfl

/-- The slice at address ao reads as these lists of texts. -/
def RdII (w : World) (ao : Option Addr) (xss : List (List Int)) : Prop :=
  xss = [] ∨ ∃ b off, ao = some ⟨b, off, none⟩ ∧ ∀ j, j < xss.length → ∃ ro c, w.cell? ⟨b, off + j, none⟩ = some (.slice ro (xss.getD j []).length c) ∧ Rd w ro (xss.getD j [])
theorem RdII.later {w w' : World} {ao : Option Addr} {xss : List (List Int)} (h : RdII w ao xss) (hb : Below w.heap.size w w') : RdII w' ao xss := by
  rcases h with h | ⟨b, off, he, hc⟩
  · exact Or.inl h
  · refine Or.inr ⟨b, off, he, fun j hj => ?_⟩
    obtain ⟨ro, c, h1, h2⟩ := hc j hj
    exact ⟨ro, c, by rw [hb.cell (p := ⟨b, off + j, none⟩) (World.block_lt_of_cell? w _ h1)]; exact h1, h2.later hb⟩
theorem RdII.get {w : World} {ao : Option Addr} {xss : List (List Int)} (h : RdII w ao xss) {k : Nat} (hk : k < xss.length) : ∃ b o ro c, ao = some ⟨b, o, none⟩ ∧ w.cell? ⟨b, o + k, none⟩ = some (.slice ro (xss.getD k []).length c) ∧ Rd w ro (xss.getD k []) := by
  rcases h with rfl | ⟨b, o, rfl, hc⟩
  · simp at hk
  · obtain ⟨ro, c, h1, h2⟩ := hc k hk
    exact ⟨b, o, ro, c, rfl, h1, h2⟩

def sepB (u v : Value) : Prop := u.ownBlock = none ∨ u.ownBlock ≠ v.ownBlock
def nilV : Value := .slice none 0 0
/-- A row of rows, all of the call's own, no two sharing memory. -/
def OwnII (w : World) (base : Nat) (v : Value) (xss : List (List Int)) : Prop :=
  ∃ vs : List Value, vs.length = xss.length ∧ w.ownsRow base 24 1 v xss.length vs ∧ (∀ j, j < xss.length → Own w base (vs.getD j nilV) (xss.getD j [])) ∧ ∀ i j, i < j → j < xss.length → sepB (vs.getD i nilV) (vs.getD j nilV)
theorem OwnII.rd {w : World} {base : Nat} {v : Value} {xss : List (List Int)} (h : OwnII w base v xss) : ∃ ao c, v = .slice ao xss.length c ∧ RdII w ao xss ∧ (ao = none → xss.length = 0 ∧ c = 0) := by
  obtain ⟨vs, hl, ho, hi, _⟩ := h
  rcases ho.2 with ⟨rfl, h0⟩ | ⟨g, cap, cur, rfl, _, hg, _, _, _, _⟩
  · exact ⟨none, 0, by rw [h0], Or.inl (List.length_eq_zero_iff.1 h0), fun _ => ⟨h0, rfl⟩⟩
  · refine ⟨_, _, rfl, Or.inr ⟨g, 0, rfl, fun j hj => ?_⟩, fun e => by cases e⟩
    have hc := World.ownsRow.cellAt ho j (by omega)
    obtain ⟨ro, c, hv, hr⟩ := (hi j hj).rd
    refine ⟨ro, c, ?_, hr⟩
    rw [Nat.zero_add, hc, List.getElem?_eq_getElem (by omega)]
    have e : vs.getD j nilV = vs[j]'(by omega) := by simp [List.getD, show j < vs.length by omega]
    rw [← e, hv]
theorem OwnII.rd' {w : World} {base n c : Nat} {ao : Option Addr} {xss : List (List Int)} (h : OwnII w base (.slice ao n c) xss) : RdII w ao xss := by
  obtain ⟨ao', c', h1, h2, _⟩ := h.rd
  simp only [Value.slice.injEq] at h1
  obtain ⟨rfl, _, _⟩ := h1
  exact h2
theorem rowLater {w w' : World} {base : Nat} {e : TypeId} {s n : Nat} {v : Value} {xs : List Value} (h : w.ownsRow base e s v n xs) (hb : Below w.heap.size w w') : w'.ownsRow base e s v n xs := by
  refine ⟨h.1, ?_⟩
  rcases h.2 with h2 | ⟨g, cap, cur, hv, hg, hh, r⟩
  · exact Or.inl h2
  · exact Or.inr ⟨g, cap, cur, hv, hg, by rw [hb.block g (Array.getElem?_eq_some_iff.1 hh).1]; exact hh, r⟩
theorem rowMono {w : World} {base base' : Nat} {e : TypeId} {s n : Nat} {v : Value} {xs : List Value} (h : w.ownsRow base e s v n xs) (hb : base' ≤ base) : w.ownsRow base' e s v n xs := by
  refine ⟨h.1, ?_⟩
  rcases h.2 with h2 | ⟨g, cap, cur, hv, hg, r⟩
  · exact Or.inl h2
  · exact Or.inr ⟨g, cap, cur, hv, Nat.le_trans hb hg, r⟩
theorem OwnII.later {w w' : World} {base : Nat} {v : Value} {xss : List (List Int)} (h : OwnII w base v xss) (hb : Below w.heap.size w w') : OwnII w' base v xss := by
  obtain ⟨vs, hl, ho, hi, hs⟩ := h
  exact ⟨vs, hl, rowLater ho hb, fun j hj => (hi j hj).later hb, hs⟩
theorem OwnII.mono {w : World} {base base' : Nat} {v : Value} {xss : List (List Int)} (h : OwnII w base v xss) (hb : base' ≤ base) : OwnII w base' v xss := by
  obtain ⟨vs, hl, ho, hi, hs⟩ := h
  exact ⟨vs, hl, rowMono ho hb, fun j hj => (hi j hj).mono hb, hs⟩

set_option maxHeartbeats 1000000 in
theorem eqII_c (ao bo : Option Addr) (n c d : Nat) (xss : List (List Int)) (w : World) (hx : xss.length = n) (hn : n ≤ 1048576) (hl : ∀ l ∈ xss, l.length ≤ 1048576) (hr : RdII w ao xss) (hs : RdII w bo xss) :
    Calls Try.prog 48 #[.slice ao n c, .slice bo n d] w fun e w' => e = .returned (.bool true) ∧ Below w.heap.size w w' := by
  have HX : Hid (xss.length = n) := hx
  have HR : Hid (RdII w ao xss) := hr
  have HS : Hid (RdII w bo xss) := hs
  have HL : Hid (∀ l ∈ xss, l.length ≤ 1048576) := hl
  have hnn : ((n : Int) != (n : Int)) = false := by simp
  clear hx hr hs hl
  go_enter Try.func48, Try.ntmps48
  go_wp2
  go_loopw [5] (fun iv wr => ∃ (k : Nat), k ≤ n ∧ iv = .int .i64 k ∧ Hid (Below w.heap.size w wr)) (fun iv _ => n - (intOf iv).toNat)
  case atStart => exact ⟨0, Nat.zero_le _, rfl, Below.refl _ _⟩
  case round =>
    obtain ⟨k, hk, rfl, HB⟩ := hrel
    by_cases hlt : k < n
    · have hkl : k < xss.length := by rw [HX.out]; exact hlt
      obtain ⟨b, o, ro, rc, rfl, g1, hro⟩ := (HR.out.later HB.out).get hkl
      obtain ⟨b', o', so, sc, rfl, g2, hso⟩ := (HS.out.later HB.out).get hkl
      have hlk := HL.out _ (mem_getD [] hkl)
      have k0 : (0 : Int) ≤ (k : Int) := by omega
      have k1 : (k : Int) < (n : Int) := by omega
      generalize xss.getD k [] = row at g1 g2 hro hso hlk
      obtain ⟨rn, hrn⟩ : ∃ rn, row.length = rn := ⟨_, rfl⟩
      rw [hrn] at g1 g2 hlk
      have HQ : Hid (∀ wx, Below wr.heap.size wr wx → Calls Try.prog 42 #[.slice ro rn rc, .slice so rn sc] wx fun e w' => e = .returned (.bool true) ∧ Below wx.heap.size wx w') := fun wx h => by
        have q := eqIntS_c ro so rn rn rc sc row row wx hrn hrn (by omega) (by omega) (hro.later h) (hso.later h)
        rw [decide_eq_true rfl] at q; exact q
      clear hkl hlk hrn hro hso
      go_wp2
      go_region_with (go_at_call 42; refine (HQ.out _ (by first | exact Below.refl _ _ | exact (Below.refl _ _).drew)).mono ?_; rintro e w1 ⟨rfl, hb1⟩; have HB1 : Hid (Below w.heap.size w w1) := (by first | exact HB.out.trans (hb1.mono HB.out.size) | exact HB.out.drew.trans (hb1.mono HB.out.size)); clear hb1)
      all_goals go_wp2
      all_goals exact ⟨⟨k + 1, by omega, by go_num, HB1⟩, by simp [intOf]; omega⟩
    · go_wp2
      go_ret
      exact ⟨rfl, HB.out⟩

theorem nilOwn (w : World) (base : Nat) : Own w base nilV [] := World.ownsRow_nil _ _ _ _

theorem row_sep {w : World} {b1 b2 n : Nat} {u v : Value} {x : List Int} {vs : List Value} (h : Own w b1 u x) (k : w.ownsRow b2 24 1 v n vs) : u.ownBlock = none ∨ u.ownBlock ≠ v.ownBlock := by
  rcases h.2 with ⟨rfl, _⟩ | ⟨g, cap, cur, rfl, _, hg, _⟩
  · exact Or.inl rfl
  · rcases k.2 with ⟨rfl, _⟩ | ⟨g', cap', cur', rfl, _, hg', _⟩
    · exact Or.inr (by simp [Value.ownBlock])
    · refine Or.inr fun e => ?_
      simp only [Value.ownBlock, Option.some.injEq] at e
      subst e
      rw [hg] at hg'
      simp at hg'
/-- Nothing outside the blocks from lo up to hi has turned. -/
structure Rng (lo hi : Nat) (w w' : World) : Prop where
  os : w'.os = w.os
  tape : w'.tape = w.tape
  output : w'.output = w.output
  size : w.heap.size ≤ w'.heap.size
  block : ∀ q, q < w.heap.size → (q < lo ∨ hi ≤ q) → w'.heap[q]? = w.heap[q]?
theorem Rng.refl (lo hi : Nat) (w : World) : Rng lo hi w w := ⟨rfl, rfl, rfl, Nat.le_refl _, fun _ _ _ => rfl⟩
theorem Rng.trans {lo hi : Nat} {w a b : World} (h : Rng lo hi w a) (k : Rng lo hi a b) : Rng lo hi w b := ⟨k.os.trans h.os, k.tape.trans h.tape, k.output.trans h.output, Nat.le_trans h.size k.size, fun q hq ho => (k.block q (Nat.lt_of_lt_of_le hq h.size) ho).trans (h.block q hq ho)⟩
theorem Rng.ofGrown {lo hi : Nat} {w w' : World} {row : Option Nat} (h : w.grownBy w' row) (hr : ∀ k, row = some k → lo ≤ k ∧ k < hi) : Rng lo hi w w' := ⟨h.os, h.tape, h.output, h.size, fun q hq ho => h.block q hq (fun e => by have := hr q e.symm; omega)⟩
theorem Rng.below {lo hi B : Nat} {w w' : World} (h : Rng lo hi w w') (h1 : B ≤ lo) (h2 : B ≤ w.heap.size) : Below B w w' := ⟨h.os, h.tape, h.output, h.size, fun q hq => h.block q (by omega) (Or.inl (by omega))⟩
/-- A row of rows whose blocks lie from lo up to hi. -/
def OwnIR (w : World) (lo hi : Nat) (v : Value) (xss : List (List Int)) : Prop :=
  ∃ vs : List Value, vs.length = xss.length ∧ w.ownsRow lo 24 1 v xss.length vs ∧ (∀ j, j < xss.length → Own w lo (vs.getD j nilV) (xss.getD j [])) ∧ (∀ i j, i < j → j < xss.length → sepB (vs.getD i nilV) (vs.getD j nilV)) ∧ (∀ k, v.ownBlock = some k → k < hi) ∧ ∀ j, j < xss.length → ∀ k, (vs.getD j nilV).ownBlock = some k → k < hi
theorem OwnII.toR {w : World} {base : Nat} {v : Value} {xss : List (List Int)} (h : OwnII w base v xss) : OwnIR w base w.heap.size v xss := by
  obtain ⟨vs, hl, ho, hi, hs⟩ := h
  exact ⟨vs, hl, ho, hi, hs, fun k e => (World.ownsRow.lt ho k e).2, fun j hj k e => (World.ownsRow.lt (hi j hj) k e).2⟩
theorem OwnIR.toS {w : World} {lo hi : Nat} {v : Value} {xss : List (List Int)} (h : OwnIR w lo hi v xss) : OwnII w lo v xss := by
  obtain ⟨vs, hl, ho, hi, hs, _⟩ := h
  exact ⟨vs, hl, ho, hi, hs⟩
theorem OwnIR.later {w w' : World} {lo hi : Nat} {v : Value} {xss : List (List Int)} (h : OwnIR w lo hi v xss) (hb : Below w.heap.size w w') : OwnIR w' lo hi v xss := by
  obtain ⟨vs, hl, ho, hi, hs, h1, h2⟩ := h
  exact ⟨vs, hl, rowLater ho hb, fun j hj => (hi j hj).later hb, hs, h1, h2⟩
theorem OwnIR.rng {w w' : World} {lo hi lo2 hi2 : Nat} {v : Value} {xss : List (List Int)} (h : OwnIR w lo hi v xss) (hr : Rng lo2 hi2 w w') (hd : hi ≤ lo2 ∨ hi2 ≤ lo) : OwnIR w' lo hi v xss := by
  obtain ⟨vs, hl, ho, hin, hs, h1, h2⟩ := h
  have hg : ∀ g, lo ≤ g → g < hi → g < w.heap.size → w'.heap[g]? = w.heap[g]? := fun g a b c => hr.block g c (by omega)
  refine ⟨vs, hl, ?_, fun j hj => ?_, hs, h1, h2⟩
  · refine ⟨ho.1, ?_⟩
    rcases ho.2 with h0 | ⟨g, cap, cur, hv, hlo, hh, r⟩
    · exact Or.inl h0
    · exact Or.inr ⟨g, cap, cur, hv, hlo, by rw [hg g hlo (h1 g (by rw [hv]; rfl)) (Array.getElem?_eq_some_iff.1 hh).1]; exact hh, r⟩
  · refine ⟨(hin j hj).1, ?_⟩
    rcases (hin j hj).2 with h0 | ⟨g, cap, cur, hv, hlo, hh, r⟩
    · exact Or.inl h0
    · exact Or.inr ⟨g, cap, cur, hv, hlo, by rw [hg g hlo (h2 j hj g (by rw [hv]; rfl)) (Array.getElem?_eq_some_iff.1 hh).1]; exact hh, r⟩

/-- How many texts stand ahead of row j. -/
def cum (xss : List (List Int)) (j : Nat) : Nat := ((xss.take j).map List.length).sum
theorem cum_succ {xss : List (List Int)} {j : Nat} (h : j < xss.length) : cum xss (j + 1) = cum xss j + (xss.getD j []).length := by
  unfold cum
  rw [take_snoc [] h, List.map_append, List.sum_append]; simp
theorem cum_le {xss : List (List Int)} {M : Nat} (hl : ∀ l ∈ xss, l.length ≤ M) : ∀ j, j ≤ xss.length → cum xss j ≤ j * M
  | 0, _ => by simp [cum]
  | j + 1, h => by
    have h1 := cum_le hl j (by omega)
    have h2 := hl _ (mem_getD [] (show j < xss.length by omega))
    rw [cum_succ (show j < xss.length by omega), Nat.add_mul]; omega
/-- All rows marked, from 1 on. -/
def markL (xss : List (List Int)) : List (List Int) := (List.range xss.length).map fun j => marks (1 + (cum xss j : Nat)) (xss.getD j []).length
theorem markL_length (xss : List (List Int)) : (markL xss).length = xss.length := by simp [markL]
theorem markL_getD {xss : List (List Int)} {j : Nat} (h : j < xss.length) : (markL xss).getD j [] = marks (1 + (cum xss j : Nat)) (xss.getD j []).length := by simp [markL, List.getD, h]

set_option maxHeartbeats 2000000 in
theorem markII_c (ao : Option Addr) (n c lo hi : Nat) (xss : List (List Int)) (w : World) (hx : xss.length = n) (hn : n ≤ 1048576) (hl : ∀ l ∈ xss, l.length ≤ 1048576) (ho : OwnIR w lo hi (.slice ao n c) xss) :
    Calls Try.prog 49 #[.slice ao n c, .int .i64 1] w fun e w' => e = .returned (.int .i64 (1 + (cum xss n : Nat))) ∧ OwnIR w' lo hi (.slice ao n c) (markL xss) ∧ Rng lo hi w w' := by
  obtain ⟨vs, hvl, hvo, hvi, hvs, hv1, hv2⟩ := ho
  have HX : Hid (xss.length = n) := hx
  have HL : Hid (∀ l ∈ xss, l.length ≤ 1048576) := hl
  have HVL : Hid (vs.length = xss.length) := hvl
  have HVS : Hid (∀ i j, i < j → j < xss.length → sepB (vs.getD i nilV) (vs.getD j nilV)) := hvs
  have HV1 : Hid (∀ k, (Value.slice ao n c).ownBlock = some k → k < hi) := hv1
  have HV2 : Hid (∀ j, j < xss.length → ∀ k, (vs.getD j nilV).ownBlock = some k → k < hi) := hv2
  have HI0 : Hid (w.ownsRow lo 24 1 (.slice ao n c) xss.length vs ∧ (∀ j, j < 0 → Own w lo (vs.getD j nilV) (marks (1 + (cum xss j : Nat)) (xss.getD j []).length)) ∧ ∀ j, 0 ≤ j → j < n → Own w lo (vs.getD j nilV) (xss.getD j [])) := ⟨hvo, fun j h => absurd h (by omega), fun j _ hj => hvi j (by omega)⟩
  have HC : Hid (∀ j, j ≤ n → cum xss j ≤ 1099511627776) := fun j hj => Nat.le_trans (cum_le hl j (by omega)) (by have : j * 1048576 ≤ 1048576 * 1048576 := Nat.mul_le_mul_right _ (by omega); omega)
  clear hx hl hvl hvo hvi hvs hv1 hv2
  go_enter Try.func49, Try.ntmps49
  go_wp2
  go_loopw [1, 5] (fun kv iv wr => ∃ (k q : Nat), k ≤ n ∧ iv = .int .i64 k ∧ kv = .int .i64 q ∧ Hid (q = 1 + cum xss k) ∧ Hid (wr.ownsRow lo 24 1 (.slice ao n c) xss.length vs ∧ (∀ j, j < k → Own wr lo (vs.getD j nilV) (marks (1 + (cum xss j : Nat)) (xss.getD j []).length)) ∧ ∀ j, k ≤ j → j < n → Own wr lo (vs.getD j nilV) (xss.getD j [])) ∧ Hid (Rng lo hi w wr)) (fun _ iv _ => n - (intOf iv).toNat)
  case atStart => exact ⟨0, 1, Nat.zero_le _, rfl, rfl, by show _ = _; simp [cum], HI0, Rng.refl _ _ _⟩
  case round =>
    clear HI0
    obtain ⟨k, q, hk, rfl, rfl, HQ, HI, HG⟩ := hrel
    by_cases hlt : k < n
    · have hkl : k < xss.length := by rw [HX.out]; exact hlt
      have hok := HI.out.2.2 k (Nat.le_refl _) hlt
      have hrow := HI.out.1
      obtain ⟨gb, gcap, hao, g1⟩ : ∃ g cc, ao = some ⟨g, 0, none⟩ ∧ wr.cell? ⟨g, k, none⟩ = some (vs.getD k nilV) := by
        rcases hrow.2 with ⟨h0, h1⟩ | ⟨g, cap, cur, hv, _⟩
        · omega
        · have e := hv
          simp only [Value.slice.injEq] at e
          refine ⟨g, cap, e.1, ?_⟩
          have hc := World.ownsRow.cellAt (g := g) (cap := c) (n := xss.length) (by have h := hrow; rw [e.1, HX.out] at h; rw [HX.out]; exact h) k (by omega)
          rw [hc, List.getElem?_eq_getElem (by rw [HVL.out]; exact hkl)]
          simp [List.getD, show k < vs.length by rw [HVL.out]; exact hkl]
      subst hao
      have hlk := HL.out _ (mem_getD [] hkl)
      have hcs := cum_succ hkl
      have hcb := HC.out (k + 1) (by omega)
      have hv2k := HV2.out k hkl
      have hlo := own_block_ge hok
      obtain ⟨ra, rcc, hrv⟩ := hok.shape
      obtain ⟨rn, hrn⟩ : ∃ rn, (xss.getD k []).length = rn := ⟨_, rfl⟩
      rw [hrn] at hrv hlk hcs
      have q1 := markIntS_c ra rn rcc (q : Int) lo (xss.getD k []) wr (by omega) (by omega) (by have := HQ.out; omega) (by rw [← hrv]; exact hok)
      have HRV : Hid (vs.getD k nilV = .slice ra rn rcc) := hrv
      have HRN : Hid ((xss.getD k []).length = rn) := hrn
      have HCS : Hid (cum xss (k + 1) = cum xss k + rn) := hcs
      have HLO : Hid (∀ k', (Value.slice ra rn rcc).ownBlock = some k' → lo ≤ k' ∧ k' < hi) := fun k' e => by rw [← hrv] at e; exact ⟨hlo k' e, hv2k k' e⟩
      rw [hrv] at g1
      have hqb : q ≤ 1099511627777 := by have := HQ.out; have := HC.out k (by omega); omega
      clear hok hrow hkl hlk hcs hcb hv2k hlo hrv hrn
      have k0 : (0 : Int) ≤ (k : Int) := by omega
      have k1 : (k : Int) < (n : Int) := by omega
      go_wp2_with fail
      refine q1.mono ?_
      clear q1
      rintro e w1 ⟨rfl, ho1, hg1⟩
      have hkl : k < xss.length := by rw [HX.out]; exact hlt
      have HI1 : Hid (w1.ownsRow lo 24 1 (.slice (some ⟨gb, 0, none⟩) n c) xss.length vs ∧ (∀ j, j < k + 1 → Own w1 lo (vs.getD j nilV) (marks (1 + (cum xss j : Nat)) (xss.getD j []).length)) ∧ ∀ j, k + 1 ≤ j → j < n → Own w1 lo (vs.getD j nilV) (xss.getD j [])) := by
        have hok := HI.out.2.2 k (Nat.le_refl _) hlt
        refine ⟨World.ownsRow.kept HI.out.1 hg1 ?_, fun j hj => ?_, fun j hj hjn => ?_⟩
        · rw [← HRV.out]
          rcases row_sep hok HI.out.1 with h | h
          · rw [h]
            cases (Value.slice (some ⟨gb, 0, none⟩) n c).ownBlock with
            | none => exact Or.inl rfl
            | some y => exact Or.inr (by simp)
          · exact Or.inr (Ne.symm h)
        · by_cases e : j = k
          · subst e
            rw [HRV.out, HRN.out]
            have hq : (q : Int) = 1 + (cum xss j : Nat) := by have := HQ.out; omega
            rw [← hq]; exact ho1
          · refine (HI.out.2.1 j (by omega)).kept hg1 ?_
            rw [← HRV.out]
            exact HVS.out j k (by omega) hkl
        · refine (HI.out.2.2 j (by omega) hjn).kept hg1 ?_
          rw [← HRV.out]
          rcases HVS.out k j (by omega) (by rw [HX.out]; exact hjn) with h | h
          · rw [h]
            cases (vs.getD j nilV).ownBlock with
            | none => exact Or.inl rfl
            | some y => exact Or.inr (by simp)
          · exact Or.inr (Ne.symm h)
      have HG1 : Hid (Rng lo hi w w1) := HG.out.trans (Rng.ofGrown hg1 HLO.out)
      have HQ1 : Hid (q + rn = 1 + cum xss (k + 1)) := by show _ = _; have := HQ.out; have := HCS.out; omega
      have hrnb : rn ≤ 1048576 := by have h := HL.out _ (mem_getD [] hkl); rw [HRN.out] at h; exact h
      clear ho1 hg1 hkl HI HG
      go_wp2
      go_roundw
      case rel => exact ⟨k + 1, q + rn, by omega, by go_num, by go_num, HQ1, HI1, HG1⟩
      case measure => simp [intOf]; omega
    · obtain rfl : k = n := by omega
      have hq : (q : Int) = 1 + (cum xss k : Nat) := by have := HQ.out; omega
      have HQ2 : Hid ((q : Int) = 1 + (cum xss k : Nat)) := hq
      clear hq
      go_wp2
      go_ret
      refine ⟨ret_int HQ2.out, ⟨vs, by rw [HVL.out, markL_length], by rw [markL_length]; exact HI.out.1, fun j hj => ?_, fun i j hij hj => HVS.out i j hij (by rw [markL_length] at hj; exact hj), HV1.out, fun j hj => HV2.out j (by rw [markL_length] at hj; exact hj)⟩, HG.out⟩
      rw [markL_length] at hj
      rw [markL_getD hj]
      exact HI.out.2.1 j (by rw [HX.out] at hj; exact hj)

set_option maxHeartbeats 2000000 in
theorem heldII_c (ao : Option Addr) (n c lo hi : Nat) (xss : List (List Int)) (w : World) (hx : xss.length = n) (hn : n ≤ 1048576) (hl : ∀ l ∈ xss, l.length ≤ 1048576) (ho : OwnIR w lo hi (.slice ao n c) (markL xss)) :
    Calls Try.prog 50 #[.slice ao n c, .int .i64 1] w fun e w' => e = .returned (.int .i64 (1 + (cum xss n : Nat))) ∧ Below w.heap.size w w' := by
  have HX : Hid (xss.length = n) := hx
  have HL : Hid (∀ l ∈ xss, l.length ≤ 1048576) := hl
  have HO : Hid (OwnIR w lo hi (.slice ao n c) (markL xss)) := ho
  have HC : Hid (∀ j, j ≤ n → cum xss j ≤ 1099511627776) := fun j hj => Nat.le_trans (cum_le hl j (by omega)) (by have : j * 1048576 ≤ 1048576 * 1048576 := Nat.mul_le_mul_right _ (by omega); omega)
  clear hx hl ho
  go_enter Try.func50, Try.ntmps50
  go_wp2
  go_loopw [1, 5] (fun kv iv wr => ∃ (k q : Nat), k ≤ n ∧ iv = .int .i64 k ∧ kv = .int .i64 q ∧ Hid (q = 1 + cum xss k) ∧ Hid (Below w.heap.size w wr)) (fun _ iv _ => n - (intOf iv).toNat)
  case atStart => exact ⟨0, 1, Nat.zero_le _, rfl, rfl, by show _ = _; simp [cum], Below.refl _ _⟩
  case round =>
    obtain ⟨k, q, hk, rfl, rfl, HQ, HB⟩ := hrel
    by_cases hlt : k < n
    · have hkl : k < xss.length := by rw [HX.out]; exact hlt
      obtain ⟨vs, hvl, hvo, hvi, _⟩ := HO.out.later HB.out
      rw [markL_length] at hvl hvo hvi
      have hok := hvi k hkl
      rw [markL_getD hkl] at hok
      obtain ⟨gb, gcap, hao, g1⟩ : ∃ g cc, ao = some ⟨g, 0, none⟩ ∧ wr.cell? ⟨g, k, none⟩ = some (vs.getD k nilV) := by
        rcases hvo.2 with ⟨h0, h1⟩ | ⟨g, cap, cur, hv, _⟩
        · omega
        · have e := hv
          simp only [Value.slice.injEq] at e
          refine ⟨g, cap, e.1, ?_⟩
          have hc := World.ownsRow.cellAt (g := g) (cap := c) (n := xss.length) (by have h := hvo; rw [e.1, HX.out] at h; rw [HX.out]; exact h) k (by omega)
          rw [hc, List.getElem?_eq_getElem (by rw [hvl]; exact hkl)]
          simp [List.getD, show k < vs.length by rw [hvl]; exact hkl]
      subst hao
      have hlk := HL.out _ (mem_getD [] hkl)
      have hcs := cum_succ hkl
      have hcb := HC.out (k + 1) (by omega)
      obtain ⟨ra, rcc, hrv⟩ := hok.shape
      obtain ⟨rn, hrn⟩ : ∃ rn, (xss.getD k []).length = rn := ⟨_, rfl⟩
      rw [hrn] at hrv hlk hcs hok
      rw [marks_length] at hrv
      have hq : (1 : Int) + (cum xss k : Nat) = q := by have := HQ.out; omega
      rw [hq, hrv] at hok
      have q1 := heldIntS_c ra rn rcc (q : Int) lo wr (by omega) (by omega) (by have := HQ.out; omega) hok
      have HCS : Hid (cum xss (k + 1) = cum xss k + rn) := hcs
      rw [hrv] at g1
      have hqb : q ≤ 1099511627777 := by have := HQ.out; have := HC.out k (by omega); omega
      have hqn : ¬ ((q : Int) + (rn : Int) < 0) := by omega
      clear hok hvo hvi hvl hkl hcs hcb hrv hrn hq
      have k0 : (0 : Int) ≤ (k : Int) := by omega
      have k1 : (k : Int) < (n : Int) := by omega
      go_wp2_with fail
      refine q1.mono ?_
      clear q1
      rintro e w1 ⟨rfl, hb1⟩
      have HB1 : Hid (Below w.heap.size w w1) := by show Below _ _ _; rw [hb1]; exact HB.out
      have HQ1 : Hid (q + rn = 1 + cum xss (k + 1)) := by show _ = _; have := HQ.out; have := HCS.out; omega
      clear hb1 HB
      go_wp2
      go_roundw
      case rel => exact ⟨k + 1, q + rn, by omega, by go_num, by go_num, HQ1, HB1⟩
      case measure => simp [intOf]; omega
    · obtain rfl : k = n := by omega
      have HQ2 : Hid ((q : Int) = 1 + (cum xss k : Nat)) := by show _ = _; have := HQ.out; omega
      go_wp2
      go_ret
      exact ⟨ret_int HQ2.out, HB.out⟩

end Go.Proofs.Ytheagikallnppaa
