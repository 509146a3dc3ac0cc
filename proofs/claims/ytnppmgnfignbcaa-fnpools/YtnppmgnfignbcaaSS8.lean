/- Chapter 8: lists of lists of texts: the laws' helpers over them. -/
import Derived.Test.YtnppmgnfignbcaaX8
namespace Go.Proofs.Ytnppmgnfignbcaa
set_option linter.unusedVariables false
set_option maxRecDepth 1000000
set_option linter.unusedSimpArgs false
open Go.RowKit

theorem Try.infoStrs : (Try.prog.info? 29).map (fun i => (i.zero, i.size, i.bytes)) = some (some (.slice none 0 0), 1, 24) := by kernel_rfl

/-- The slice at address ao reads as these lists of texts. -/
def RdSS (w : World) (ao : Option Addr) (xss : List (List ByteArray)) : Prop :=
  xss = [] ∨ ∃ b off, ao = some ⟨b, off, none⟩ ∧ ∀ j, j < xss.length → ∃ ro c, w.cell? ⟨b, off + j, none⟩ = some (.slice ro (xss.getD j []).length c) ∧ RdS w ro (xss.getD j [])
theorem RdSS.later {w w' : World} {ao : Option Addr} {xss : List (List ByteArray)} (h : RdSS w ao xss) (hb : Below w.heap.size w w') : RdSS w' ao xss := by
  rcases h with h | ⟨b, off, he, hc⟩
  · exact Or.inl h
  · refine Or.inr ⟨b, off, he, fun j hj => ?_⟩
    obtain ⟨ro, c, h1, h2⟩ := hc j hj
    exact ⟨ro, c, by rw [hb.cell (p := ⟨b, off + j, none⟩) (World.block_lt_of_cell? w _ h1)]; exact h1, h2.later hb⟩
theorem RdSS.get {w : World} {ao : Option Addr} {xss : List (List ByteArray)} (h : RdSS w ao xss) {k : Nat} (hk : k < xss.length) : ∃ b o ro c, ao = some ⟨b, o, none⟩ ∧ w.cell? ⟨b, o + k, none⟩ = some (.slice ro (xss.getD k []).length c) ∧ RdS w ro (xss.getD k []) := by
  rcases h with rfl | ⟨b, o, rfl, hc⟩
  · simp at hk
  · obtain ⟨ro, c, h1, h2⟩ := hc k hk
    exact ⟨b, o, ro, c, rfl, h1, h2⟩

def sepB (u v : Value) : Prop := u.ownBlock = none ∨ u.ownBlock ≠ v.ownBlock
def nilV : Value := .slice none 0 0
/-- A row of rows, all of the call's own, no two sharing memory. -/
def OwnSS (w : World) (base : Nat) (v : Value) (xss : List (List ByteArray)) : Prop :=
  ∃ vs : List Value, vs.length = xss.length ∧ w.ownsRow base 29 1 v xss.length vs ∧ (∀ j, j < xss.length → OwnS w base (vs.getD j nilV) (xss.getD j [])) ∧ ∀ i j, i < j → j < xss.length → sepB (vs.getD i nilV) (vs.getD j nilV)
theorem OwnSS.rd {w : World} {base : Nat} {v : Value} {xss : List (List ByteArray)} (h : OwnSS w base v xss) : ∃ ao c, v = .slice ao xss.length c ∧ RdSS w ao xss ∧ (ao = none → xss.length = 0 ∧ c = 0) := by
  obtain ⟨vs, hl, ho, hi, _⟩ := h
  rcases ho.2 with ⟨rfl, h0⟩ | ⟨g, cap, cur, rfl, _, hg, _, _, _, _⟩
  · exact ⟨none, 0, by rw [h0], Or.inl (List.length_eq_zero_iff.1 h0), fun _ => ⟨h0, rfl⟩⟩
  · refine ⟨_, _, rfl, Or.inr ⟨g, 0, rfl, fun j hj => ?_⟩, fun e => by cases e⟩
    have hc := World.ownsRow.cellAt ho j (by omega)
    obtain ⟨ro, c, hv, hr⟩ := (hi j hj).rd
    refine ⟨ro, c, ?_, hr⟩
    rw [Nat.zero_add, hc, List.getElem?_eq_getElem (by omega)]
    have e : vs.getD j nilV = vs[j]'(by omega) := by simp [List.getD, show j < vs.length by omega]
    rw [← e, hv]
theorem OwnSS.rd' {w : World} {base n c : Nat} {ao : Option Addr} {xss : List (List ByteArray)} (h : OwnSS w base (.slice ao n c) xss) : RdSS w ao xss := by
  obtain ⟨ao', c', h1, h2, _⟩ := h.rd
  simp only [Value.slice.injEq] at h1
  obtain ⟨rfl, _, _⟩ := h1
  exact h2
theorem rowLater {w w' : World} {base : Nat} {e : TypeId} {s n : Nat} {v : Value} {xs : List Value} (h : w.ownsRow base e s v n xs) (hb : Below w.heap.size w w') : w'.ownsRow base e s v n xs := by
  refine ⟨h.1, ?_⟩
  rcases h.2 with h2 | ⟨g, cap, cur, hv, hg, hh, r⟩
  · exact Or.inl h2
  · exact Or.inr ⟨g, cap, cur, hv, hg, by rw [hb.block g (Array.getElem?_eq_some_iff.1 hh).1]; exact hh, r⟩
theorem rowMono {w : World} {base base' : Nat} {e : TypeId} {s n : Nat} {v : Value} {xs : List Value} (h : w.ownsRow base e s v n xs) (hb : base' ≤ base) : w.ownsRow base' e s v n xs := by
  refine ⟨h.1, ?_⟩
  rcases h.2 with h2 | ⟨g, cap, cur, hv, hg, r⟩
  · exact Or.inl h2
  · exact Or.inr ⟨g, cap, cur, hv, Nat.le_trans hb hg, r⟩
theorem OwnSS.later {w w' : World} {base : Nat} {v : Value} {xss : List (List ByteArray)} (h : OwnSS w base v xss) (hb : Below w.heap.size w w') : OwnSS w' base v xss := by
  obtain ⟨vs, hl, ho, hi, hs⟩ := h
  exact ⟨vs, hl, rowLater ho hb, fun j hj => (hi j hj).later hb, hs⟩
theorem OwnSS.mono {w : World} {base base' : Nat} {v : Value} {xss : List (List ByteArray)} (h : OwnSS w base v xss) (hb : base' ≤ base) : OwnSS w base' v xss := by
  obtain ⟨vs, hl, ho, hi, hs⟩ := h
  exact ⟨vs, hl, rowMono ho hb, fun j hj => (hi j hj).mono hb, hs⟩

set_option maxHeartbeats 1000000 in
theorem szSS_c (ao : Option Addr) (n c : Nat) (xss : List (List ByteArray)) (w : World) (hx : xss.length = n) (hn : n ≤ 9223372036854775807) (hr : RdSS w ao xss) (hl : ∀ l ∈ xss, l.length ≤ 9223372036854775807 ∧ ∀ s ∈ l, s.size ≤ 9223372036854775807) :
    Calls Try.prog 46 #[.slice ao n c, .int .i64 1048576] w fun e w' => ∃ r : Int, e = .returned (.int .i64 r) ∧ w' = w ∧ (0 ≤ r → n ≤ 1048576 ∧ ∀ l ∈ xss, l.length ≤ 1048576) := by
  have HX : Hid (xss.length = n) := hx
  have HR : Hid (RdSS w ao xss) := hr
  have HL : Hid (∀ l ∈ xss, l.length ≤ 9223372036854775807 ∧ ∀ s ∈ l, s.size ≤ 9223372036854775807) := hl
  clear hx hr hl
  by_cases h1 : 1048576 < n
  · have h2 : (1048576 : Int) - n < 0 := by omega
    go_enter Try.func46, Try.ntmps46
    go_wp2
    go_ret
    exact ⟨-1, rfl, rfl, fun h => by omega⟩
  · have h2 : ¬ (1048576 : Int) - n < 0 := by omega
    have hnn : n ≤ 1048576 := by omega
    go_enter Try.func46, Try.ntmps46
    go_wp2
    go_loop [1, 5] (fun lv iv => ∃ (k q : Nat), k ≤ n ∧ iv = .int .i64 k ∧ lv = .int .i64 q ∧ q ≤ 1048576 ∧ Hid (∀ j, j < k → (xss.getD j []).length ≤ 1048576)) (fun _ iv => n - (intOf iv).toNat)
    case atStart => exact ⟨0, 1048576 - n, Nat.zero_le _, rfl, by go_num, by omega, fun j h => absurd h (by omega)⟩
    case round =>
      obtain ⟨k, q, hk, rfl, rfl, hq, HS⟩ := hrel
      by_cases hlt : k < n
      · have hkl : k < xss.length := by rw [HX.out]; exact hlt
        obtain ⟨b, o, ro, rc, rfl, g1, hro⟩ := HR.out.get hkl
        have hlk := HL.out _ (mem_getD [] hkl)
        have hS2 : ∀ r : Int, 0 ≤ r → (0 ≤ r → (xss.getD k []).length ≤ 1048576) → ∀ j, j < k + 1 → (xss.getD j []).length ≤ 1048576 := fun r h0 h j hj => by
          by_cases e : j = k
          · rw [e]; exact h h0
          · exact HS.out j (by omega)
        have HS2 : Hid (∀ r : Int, 0 ≤ r → (0 ≤ r → (xss.getD k []).length ≤ 1048576) → ∀ j, j < k + 1 → (xss.getD j []).length ≤ 1048576) := hS2
        have k0 : (0 : Int) ≤ (k : Int) := by omega
        have k1 : (k : Int) < (n : Int) := by omega
        generalize hrow : xss.getD k [] = row at g1 hro hlk
        have HRW : Hid (xss.getD k [] = row) := hrow
        obtain ⟨rn, hrn⟩ : ∃ rn, row.length = rn := ⟨_, rfl⟩
        rw [hrn] at g1 hlk
        have q1 := szStringS_c ro rn rc q row w hrn hlk.1 (by omega) hlk.2 hro
        have HRN : Hid (row.length = rn) := hrn
        clear hS2 hrow hkl hlk hrn hro
        go_wp2_with fail
        refine q1.mono ?_
        clear q1
        rintro e w' ⟨r, rfl, hw, hr1, hr2⟩
        subst w'
        by_cases hneg : r < 0
        · go_wp2
          go_ret
          exact ⟨-1, rfl, rfl, fun h => by omega⟩
        · obtain ⟨rq, rfl⟩ : ∃ rq : Nat, r = rq := ⟨r.toNat, by omega⟩
          have HN : Hid (∀ j, j < k + 1 → (xss.getD j []).length ≤ 1048576) := HS2.out rq (by omega) (fun _ => by rw [HRW.out, HRN.out]; exact hr2 (by omega))
          have hrq : rq ≤ 1048576 := by omega
          have hng : ¬ ((rq : Int) < 0) := hneg
          clear hr1 hr2 HS2
          go_wp2
          go_round
          case rel => exact ⟨k + 1, rq, by omega, by go_num, rfl, hrq, HN⟩
          case measure => simp [intOf]; omega
      · obtain rfl : k = n := by omega
        go_wp2
        go_ret
        have hF : ∀ l ∈ xss, l.length ≤ 1048576 := fun l hl => by
          obtain ⟨j, hj, e⟩ := of_mem_getD [] hl
          rw [← e]; exact HS.out j (by rw [HX.out] at hj; exact hj)
        first | exact ⟨q, rfl, rfl, fun _ => ⟨hnn, hF⟩⟩ | exact ⟨q, rfl, rfl, hnn, hF⟩ | exact ⟨q, rfl, rfl, hF⟩ | exact ⟨q, rfl, rfl, fun _ => hF⟩

set_option maxHeartbeats 1000000 in
theorem eqSS_c (ao bo : Option Addr) (n c d : Nat) (xss : List (List ByteArray)) (w : World) (hx : xss.length = n) (hn : n ≤ 1048576) (hl : ∀ l ∈ xss, l.length ≤ 1048576) (hr : RdSS w ao xss) (hs : RdSS w bo xss) :
    Calls Try.prog 48 #[.slice ao n c, .slice bo n d] w fun e w' => e = .returned (.bool true) ∧ Below w.heap.size w w' := by
  have HX : Hid (xss.length = n) := hx
  have HR : Hid (RdSS w ao xss) := hr
  have HS : Hid (RdSS w bo xss) := hs
  have HL : Hid (∀ l ∈ xss, l.length ≤ 1048576) := hl
  have hnn : ((n : Int) != (n : Int)) = false := by simp
  clear hx hr hs hl
  go_enter Try.func48, Try.ntmps48
  go_wp2
  go_loopw [5] (fun iv wr => ∃ (k : Nat), k ≤ n ∧ iv = .int .i64 k ∧ Hid (Below w.heap.size w wr)) (fun iv _ => n - (intOf iv).toNat)
  case atStart => exact ⟨0, Nat.zero_le _, rfl, Below.refl _ _⟩
  case round =>
    obtain ⟨k, hk, rfl, HB⟩ := hrel
    by_cases hlt : k < n
    · have hkl : k < xss.length := by rw [HX.out]; exact hlt
      obtain ⟨b, o, ro, rc, rfl, g1, hro⟩ := (HR.out.later HB.out).get hkl
      obtain ⟨b', o', so, sc, rfl, g2, hso⟩ := (HS.out.later HB.out).get hkl
      have hlk := HL.out _ (mem_getD [] hkl)
      have k0 : (0 : Int) ≤ (k : Int) := by omega
      have k1 : (k : Int) < (n : Int) := by omega
      generalize xss.getD k [] = row at g1 g2 hro hso hlk
      obtain ⟨rn, hrn⟩ : ∃ rn, row.length = rn := ⟨_, rfl⟩
      rw [hrn] at g1 g2 hlk
      have HQ : Hid (∀ wx, Below wr.heap.size wr wx → Calls Try.prog 43 #[.slice ro rn rc, .slice so rn sc] wx fun e w' => e = .returned (.bool true) ∧ Below wx.heap.size wx w') := fun wx h => by
        have q := eqStringS_c ro so rn rn rc sc row row wx hrn hrn (by omega) (by omega) (hro.later h) (hso.later h)
        rw [decide_eq_true rfl] at q; exact q
      clear hkl hlk hrn hro hso
      go_wp2
      go_region_with (go_at_call 43; refine (HQ.out _ (by first | exact Below.refl _ _ | exact (Below.refl _ _).drew)).mono ?_; rintro e w1 ⟨rfl, hb1⟩; have HB1 : Hid (Below w.heap.size w w1) := (by first | exact HB.out.trans (hb1.mono HB.out.size) | exact HB.out.drew.trans (hb1.mono HB.out.size)); clear hb1)
      all_goals go_wp2
      all_goals exact ⟨⟨k + 1, by omega, by go_num, HB1⟩, by simp [intOf]; omega⟩
    · go_wp2
      go_ret
      exact ⟨rfl, HB.out⟩

theorem nilOwnS (w : World) (base : Nat) : OwnS w base nilV [] := World.ownsRow_nil _ _ _ _

set_option maxHeartbeats 2000000 in
theorem toSS_c (ao : Option Addr) (n c : Nat) (xss : List (List ByteArray)) (w : World) (hx : xss.length = n) (hn : n ≤ 1048576) (hl : ∀ l ∈ xss, l.length ≤ 1048576) (hr : RdSS w ao xss) :
    Calls Try.prog 47 #[.slice ao n c] w fun e w' => ∃ a' c', e = .returned (.slice a' n c') ∧ OwnSS w' w.heap.size (.slice a' n c') xss ∧ Below w.heap.size w w' := by
  obtain ⟨i0, hi, hz0, hz1, hz2⟩ := info_parts Try.infoStrs
  have HX : Hid (xss.length = n) := hx
  have HR : Hid (RdSS w ao xss) := hr
  have HL : Hid (∀ l ∈ xss, l.length ≤ 1048576) := hl
  clear hx hr hl
  go_enter Try.func47, Try.ntmps47
  go_wp2_with (at_make; refine wpList_make_full _ rfl _ _ 23 rfl w.heap.size 29 i0 (.slice none 0 0) 1 Try.underlying23 hi hz0 hz1 _ _ _ _ n rfl rfl rfl rfl (by rw [hz2]; omega) (by unfold maxLen; omega) (Nat.le_refl _) ?_; intro w0 hown0 hgrow0)
  have hb0 : Below w.heap.size w w0 := (Below.refl _ _).grown hgrow0 (Nat.le_refl _) (fun k h => by cases h)
  have hlt0 : w.heap.size < w0.heap.size := by
    rcases hown0.2 with ⟨h, _⟩ | ⟨g, cap, cur, hv, _, hg, _⟩
    · simp at h
    · simp only [Value.slice.injEq, Option.some.injEq, Addr.mk.injEq] at hv
      obtain ⟨⟨rfl, _⟩, _⟩ := hv
      exact (Array.getElem?_eq_some_iff.1 hg).1
  have HO : Hid (∃ vs : List Value, vs.length = n ∧ w0.ownsRow w.heap.size 29 1 (.slice (some ⟨w.heap.size, 0, none⟩) n n) n vs ∧ (∀ j, j < 0 → OwnS w0 (w.heap.size + 1) (vs.getD j nilV) (xss.getD j [])) ∧ ∀ i j, i < j → j < 0 → sepB (vs.getD i nilV) (vs.getD j nilV)) := ⟨List.replicate n nilV, by simp, by
    have e : (madeCells (Value.slice none 0 0).cells (n * 1)).toList = List.replicate n nilV := by
      rw [Nat.mul_one]
      exact toList_madeCells_one _ _
    rw [← e]; exact hown0, fun j h => absurd h (by omega), fun i j h h2 => absurd h2 (by omega)⟩
  have HB0 : Hid (Below w.heap.size w w0 ∧ w.heap.size < w0.heap.size) := ⟨hb0, hlt0⟩
  clear hown0 hgrow0 hb0 hlt0
  go_wp2
  go_loopw [4] (fun i wr => ∃ k : Nat, k ≤ n ∧ i = .int .i64 k ∧ Hid (∃ vs : List Value, vs.length = n ∧ wr.ownsRow w.heap.size 29 1 (.slice (some ⟨w.heap.size, 0, none⟩) n n) n vs ∧ (∀ j, j < k → OwnS wr (w.heap.size + 1) (vs.getD j nilV) (xss.getD j [])) ∧ ∀ i j, i < j → j < k → sepB (vs.getD i nilV) (vs.getD j nilV)) ∧ Hid (Below w.heap.size w wr ∧ w.heap.size < wr.heap.size)) (fun i _ => n - (intOf i).toNat)
  case atStart => exact ⟨0, Nat.zero_le _, rfl, HO, HB0⟩
  case round =>
    clear HO HB0
    obtain ⟨k, hk, rfl, hO, HB⟩ := hrel
    by_cases hlt : k < n
    · have hkl : k < xss.length := by rw [HX.out]; exact hlt
      obtain ⟨b, o, ro, rc, rfl, g1, hro⟩ := (HR.out.later HB.out.1).get hkl
      have hlk := HL.out _ (mem_getD [] hkl)
      have k0 : (0 : Int) ≤ (k : Int) := by omega
      have k1 : (k : Int) < (n : Int) := by omega
      generalize hrow : xss.getD k [] = row at g1 hro hlk
      have HRW : Hid (xss.getD k [] = row) := hrow
      obtain ⟨rn, hrn⟩ : ∃ rn, row.length = rn := ⟨_, rfl⟩
      rw [hrn] at g1 hlk
      have q1 := toStringS_c ro rn rc row wr hrn (by omega) hro
      clear hkl hlk hrow hro
      go_wp2_with fail
      refine q1.mono ?_
      clear q1
      rintro e w1 ⟨a1, c1, rfl, ho1, hb1⟩
      obtain ⟨vs, hvl, hvo, hvi, hvs⟩ := hO.out
      have hvo1 := rowLater hvo hb1
      have g2 : w1.cell? ⟨w.heap.size, k, none⟩ = some (vs.getD k nilV) := by
        rw [World.ownsRow.cellAt hvo1 k (by omega), List.getElem?_eq_getElem (by omega)]
        simp [List.getD, show k < vs.length by omega]
      have g3 : w1.frozen? ⟨w.heap.size, k, none⟩ = false := World.ownsRow.frozenAt hvo1 k
      have hst := World.ownsRow.stored hvo1 k (.slice a1 rn c1)
      have HZ : Hid (w.heap.size < wr.heap.size) := HB.out.2
      have HS : Hid (∃ us : List Value, us.length = n ∧ (w1.setCell ⟨w.heap.size, k, none⟩ (.slice a1 rn c1)).ownsRow w.heap.size 29 1 (.slice (some ⟨w.heap.size, 0, none⟩) n n) n us ∧ (∀ j, j < k + 1 → OwnS (w1.setCell ⟨w.heap.size, k, none⟩ (.slice a1 rn c1)) (w.heap.size + 1) (us.getD j nilV) (xss.getD j [])) ∧ ∀ i j, i < j → j < k + 1 → sepB (us.getD i nilV) (us.getD j nilV)) := by
        have hne : ∀ j, j ≠ k → (vs.set k (.slice a1 rn c1)).getD j nilV = vs.getD j nilV := fun j hj => by simp [List.getD, List.getElem?_set, Ne.symm hj]
        have heq : (vs.set k (.slice a1 rn c1)).getD k nilV = .slice a1 rn c1 := by simp [List.getD, show k < vs.length by omega]
        refine ⟨vs.set k (.slice a1 rn c1), by simpa using hvl, hst.1, fun j hj => ?_, fun i j hij hj => ?_⟩
        · by_cases e : j = k
          · subst e
            rw [heq, HRW.out]
            exact (ho1.mono (by have := HZ.out; omega)).setBox (by omega) _
          · rw [hne j e]
            exact ((hvi j (by omega)).later hb1).setBox (by omega) _
        · by_cases e : j = k
          · subst e
            rw [heq, hne i (by omega)]
            rcases Option.eq_none_or_eq_some (vs.getD i nilV).ownBlock with e1 | ⟨x, e1⟩
            · exact Or.inl e1
            · refine Or.inr fun e2 => ?_
              have h1 := (World.ownsRow.lt (hvi i hij) x e1).2
              have h2 := (World.ownsRow.lt ho1 x (e2.symm.trans e1)).1
              omega
          · rw [hne j e, hne i (by omega)]
            exact hvs i j hij (by omega)
      have HB1 : Hid (Below w.heap.size w (w1.setCell ⟨w.heap.size, k, none⟩ (.slice a1 rn c1)) ∧ w.heap.size < (w1.setCell ⟨w.heap.size, k, none⟩ (.slice a1 rn c1)).heap.size) := ⟨(HB.out.1.trans (hb1.mono HB.out.1.size)).setCell (p := ⟨w.heap.size, k, none⟩) (Nat.le_refl _) _, by simp; have := HB.out.2; have := hb1.size; omega⟩
      generalize vs.getD k nilV = y at g2
      clear hvo hvo1 hst hvi hvs hvl hb1 ho1 hO HB HZ g1 hrn
      go_wp2
      go_roundw
      case rel => exact ⟨k + 1, by omega, by go_num, HS, HB1⟩
      case measure => simp [intOf]; omega
    · obtain rfl : k = n := by omega
      go_wp2
      go_ret
      obtain ⟨vs, hvl, hvo, hvi, hvs⟩ := hO.out
      refine ⟨_, _, rfl, ⟨vs, by rw [HX.out]; exact hvl, by rw [HX.out]; exact hvo, fun j hj => (hvi j (by rw [HX.out] at hj; exact hj)).mono (by omega), fun i j hij hj => hvs i j hij (by rw [HX.out] at hj; exact hj)⟩, HB.out.1⟩

/-- How many texts a round has. -/
def sizeF (xss : List (List ByteArray)) (k : Int) : Int × Bool := if xss.length ≤ 20 ∧ 0 ≤ k ∧ k < xss.length then (((xss.getD k.toNat []).length : Nat), true) else (0, false)


set_option maxHeartbeats 1000000 in
theorem specSize_c (ao : Option Addr) (n c : Nat) (xss : List (List ByteArray)) (k : Int) (w : World) (hx : xss.length = n) (hn : n ≤ 1048576) (hr : RdSS w ao xss) (r : Int) (fb : Bool) (hF : sizeF xss k = (r, fb)) :
    Calls Try.prog 23 #[.slice ao n c, .int .i64 k] w fun e w' => e = .returned (.tuple #[.int .i64 r, .bool fb]) ∧ w' = w := by
  unfold sizeF at hF
  rw [hx] at hF
  by_cases h1 : n ≤ 20
  · have i1 : ¬ (20 : Int) < (n : Int) := by omega
    by_cases h2 : 0 ≤ k
    · have i2 : ¬ k < 0 := by omega
      by_cases h3 : k < (n : Int)
      · have i3 : ¬ (n : Int) ≤ k := by omega
        rw [if_pos ⟨h1, h2, h3⟩] at hF
        simp only [Prod.mk.injEq] at hF
        obtain ⟨q, rfl⟩ : ∃ q : Nat, k = q := ⟨k.toNat, by omega⟩
        rw [Int.toNat_natCast] at hF
        obtain ⟨b, o, ro, rc, rfl, g1, _⟩ := hr.get (k := q) (by omega)
        obtain ⟨rn, hrn⟩ : ∃ rn, (xss.getD q []).length = rn := ⟨_, rfl⟩
        rw [hrn] at g1 hF
        obtain ⟨rfl, rfl⟩ := hF
        clear hr hx hrn h1
        go_enter Try.func23, Try.ntmps23
        go_wp2
        refine bodyPost_ret (v := .tuple #[.int .i64 (rn : Nat), .bool true]) (by simp [results, Try.results23, go_sem]; try rfl) rfl ?_
        exact ⟨rfl, rfl⟩
      · have i3 : (n : Int) ≤ k := by omega
        rw [if_neg (fun h => h3 h.2.2)] at hF
        simp only [Prod.mk.injEq] at hF
        obtain ⟨rfl, rfl⟩ := hF
        clear hr hx h1 h3
        go_enter Try.func23, Try.ntmps23
        go_wp2
        refine bodyPost_ret (v := .tuple #[.int .i64 0, .bool false]) (by simp [results, Try.results23, go_sem]; try rfl) rfl ?_
        exact ⟨rfl, rfl⟩
    · have i2 : k < 0 := by omega
      rw [if_neg (fun h => h2 h.2.1)] at hF
      simp only [Prod.mk.injEq] at hF
      obtain ⟨rfl, rfl⟩ := hF
      clear hr hx h1 h2
      go_enter Try.func23, Try.ntmps23
      go_wp2
      refine bodyPost_ret (v := .tuple #[.int .i64 0, .bool false]) (by simp [results, Try.results23, go_sem]; try rfl) rfl ?_
      exact ⟨rfl, rfl⟩
  · have i1 : (20 : Int) < (n : Int) := by omega
    rw [if_neg (fun h => h1 h.1)] at hF
    simp only [Prod.mk.injEq] at hF
    obtain ⟨rfl, rfl⟩ := hF
    clear hr hx h1
    go_enter Try.func23, Try.ntmps23
    go_wp2
    refine bodyPost_ret (v := .tuple #[.int .i64 0, .bool false]) (by simp [results, Try.results23, go_sem]; try rfl) rfl ?_
    exact ⟨rfl, rfl⟩

set_option maxHeartbeats 1000000 in
theorem implSize_c (ao : Option Addr) (n c : Nat) (xss : List (List ByteArray)) (k : Int) (w : World) (hx : xss.length = n) (hn : n ≤ 1048576) (hr : RdSS w ao xss) (r : Int) (fb : Bool) (hF : sizeF xss k = (r, fb)) :
    Calls Try.prog 22 #[.slice ao n c, .int .i64 k] w fun e w' => e = .returned (.tuple #[.int .i64 r, .bool fb]) ∧ w' = w := by
  unfold sizeF at hF
  rw [hx] at hF
  by_cases h1 : n ≤ 20
  · have i1 : ¬ (20 : Int) < (n : Int) := by omega
    by_cases h2 : 0 ≤ k
    · have i2 : ¬ k < 0 := by omega
      by_cases h3 : k < (n : Int)
      · have i3 : ¬ (n : Int) ≤ k := by omega
        rw [if_pos ⟨h1, h2, h3⟩] at hF
        simp only [Prod.mk.injEq] at hF
        obtain ⟨q, rfl⟩ : ∃ q : Nat, k = q := ⟨k.toNat, by omega⟩
        rw [Int.toNat_natCast] at hF
        obtain ⟨b, o, ro, rc, rfl, g1, _⟩ := hr.get (k := q) (by omega)
        obtain ⟨rn, hrn⟩ : ∃ rn, (xss.getD q []).length = rn := ⟨_, rfl⟩
        rw [hrn] at g1 hF
        obtain ⟨rfl, rfl⟩ := hF
        clear hr hx hrn h1
        go_enter Try.func22, Try.ntmps22
        go_wp2
        refine bodyPost_ret (v := .tuple #[.int .i64 (rn : Nat), .bool true]) (by simp [results, Try.results22, go_sem]; try rfl) rfl ?_
        exact ⟨rfl, rfl⟩
      · have i3 : (n : Int) ≤ k := by omega
        rw [if_neg (fun h => h3 h.2.2)] at hF
        simp only [Prod.mk.injEq] at hF
        obtain ⟨rfl, rfl⟩ := hF
        clear hr hx h1 h3
        go_enter Try.func22, Try.ntmps22
        go_wp2
        refine bodyPost_ret (v := .tuple #[.int .i64 0, .bool false]) (by simp [results, Try.results22, go_sem]; try rfl) rfl ?_
        exact ⟨rfl, rfl⟩
    · have i2 : k < 0 := by omega
      rw [if_neg (fun h => h2 h.2.1)] at hF
      simp only [Prod.mk.injEq] at hF
      obtain ⟨rfl, rfl⟩ := hF
      clear hr hx h1 h2
      go_enter Try.func22, Try.ntmps22
      go_wp2
      refine bodyPost_ret (v := .tuple #[.int .i64 0, .bool false]) (by simp [results, Try.results22, go_sem]; try rfl) rfl ?_
      exact ⟨rfl, rfl⟩
  · have i1 : (20 : Int) < (n : Int) := by omega
    rw [if_neg (fun h => h1 h.1)] at hF
    simp only [Prod.mk.injEq] at hF
    obtain ⟨rfl, rfl⟩ := hF
    clear hr hx h1
    go_enter Try.func22, Try.ntmps22
    go_wp2
    refine bodyPost_ret (v := .tuple #[.int .i64 0, .bool false]) (by simp [results, Try.results22, go_sem]; try rfl) rfl ?_
    exact ⟨rfl, rfl⟩

end Go.Proofs.Ytnppmgnfignbcaa
