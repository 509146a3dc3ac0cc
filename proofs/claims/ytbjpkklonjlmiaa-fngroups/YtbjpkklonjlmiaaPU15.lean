/- Chapter 15: rows put behind a row of rows; lists of lists copied by the program. -/
import Derived.Test.YtbjpkklonjlmiaaK15
namespace Go.Proofs.Ytbjpkklonjlmiaa
set_option linter.unusedVariables false
set_option maxRecDepth 1000000
set_option linter.unusedSimpArgs false
open Go.RowKit

theorem nilIP (w : World) (lo : Nat) (pp : Nat → Prop) : OwnIP w lo pp (.slice none 0 0) [] := ⟨[], rfl, World.ownsRow_nil _ _ _ _, fun j h => absurd h (by simp), fun i j _ h => absurd h (by simp), (fun k h => by cases h), fun j h => absurd h (by simp)⟩

theorem copyOfInts_c (ao : Option Addr) (n c : Nat) (xs : List Int) (w : World) (hx : xs.length = n) (hn : n ≤ 1000000) (hr : Rd w ao xs) (hz : ao = none → n = 0 ∧ c = 0) :
    Calls Try.prog 59 #[.slice ao n c] w fun e w' => ∃ a' c', e = .returned (.slice a' n c') ∧ Own w' w.heap.size (.slice a' n c') xs ∧ Below w.heap.size w w' := by
  obtain ⟨v', w1, r1, o1, gg, b1⟩ := appendI_run w w.heap.size (.slice none 0 0) [] xs ao n c (World.ownsRow_nil _ _ _ _) hr hx hz (by simpa using hn) (Nat.le_refl _)
  rw [List.nil_append] at o1
  obtain ⟨a6, c6, hv6⟩ := o1.shape
  rw [hx] at hv6
  subst hv6
  have HO : Hid (Own w1 w.heap.size (.slice a6 n c6) xs) := o1
  have HB : Hid (Below w.heap.size w w1) := b1
  clear o1 gg b1 hr hx hz
  go_enter Try.func59, Try.ntmps59
  go_wp2_with (first | (at_builtin; refine Lib.wpList_append_run _ rfl _ _ _ _ rfl _ _ rfl rfl _ _ (r1 _) ?_; clear r1))
  go_ret
  exact ⟨a6, c6, rfl, HO.out, HB.out⟩

/-- A row is put behind a row of rows. -/
theorem pushIP_run (w : World) (lo : Nat) (pp : Nat → Prop) (v : Value) (xss : List (List Int)) (ua : Option Addr) (un uc : Nat) (xs : List Int) (h : OwnIP w lo pp v xss) (hu : Own w lo (.slice ua un uc) xs) (hs : ∀ k, (Value.slice ua un uc).ownBlock = some k → ¬ pp k) (hl : xss.length ≤ 1000000) (hlo : lo ≤ w.heap.size) (hpp : ∀ k, pp k → k < w.heap.size) :
    ∃ g cap w', (∀ ty, (Builtin.append_ #[23, 23] ty #[v, .slice (some ⟨w.heap.size, 0, none⟩) 1 1]).run Try.prog (w.alloc (.cells #[.slice ua un uc] 24)) = .ok (.slice (some ⟨g, 0, none⟩) (xss.length + 1) cap) w') ∧ OwnIP w' lo (fun k => pp k ∨ (Value.slice ua un uc).ownBlock = some k ∨ k = w.heap.size + 1) (.slice (some ⟨g, 0, none⟩) (xss.length + 1) cap) (xss ++ [xs]) ∧ RngP pp w w' := by
  obtain ⟨i0, hi, hz0, hz1, hz2⟩ := info_parts Try.infoInts
  have hb := balloc w (.cells #[.slice ua un uc] 24)
  have hsz : (w.alloc (.cells #[.slice ua un uc] 24)).heap.size = w.heap.size + 1 := by simp
  obtain ⟨vs, hvl, hvo, hvi, hvs, hv1, hv2⟩ := h.later hb
  have hu2 := hu.later hb
  have hnew : ∀ j x, ([Value.slice ua un uc] : List Value)[j]? = some x → (w.alloc (.cells #[.slice ua un uc] 24)).cell? ((⟨w.heap.size, 0, none⟩ : Addr).add j) = some x := cell_new1 w _ _
  obtain ⟨g, cap, w', hrun, how, hg, hgg, hlt⟩ := run_append_lies (P := Try.prog) (w := w.alloc (.cells #[.slice ua un uc] 24)) 23 23 lo 24 i0 (.slice none 0 0) 1 24 Try.underlying23 hi hz0 hz1 hz2 rfl (by decide) v xss.length vs hvo ⟨w.heap.size, 0, none⟩ 1 1 [.slice ua un uc] rfl hnew (by intro x hx; simp at hx; subst hx; rfl) (by decide) (by unfold maxLen; omega) (by omega) (by omega) (w.heap.size + 1) hsz
  have hr : RngP pp w w' := by
    have h1 : RngP pp w (w.alloc (.cells #[.slice ua un uc] 24)) := ⟨hb.os, hb.tape, hb.output, hb.size, fun q hq _ => hb.block q hq⟩
    exact h1.trans (RngP.ofGrown hg hv1)
  have hlen : (xss ++ [xs]).length = xss.length + 1 := by simp
  have hget : ∀ j, j < xss.length → (vs ++ [Value.slice ua un uc]).getD j nilV = vs.getD j nilV := fun j hj => by simp [List.getD, List.getElem?_append_left (show j < vs.length by omega)]
  have hgex : ∀ j, j < xss.length → (xss ++ [xs]).getD j [] = xss.getD j [] := fun j hj => by simp [List.getD, List.getElem?_append_left hj]
  have hgl : (vs ++ [Value.slice ua un uc]).getD xss.length nilV = .slice ua un uc := by simp [List.getD, ← hvl]
  have hglx : (xss ++ [xs]).getD xss.length [] = xs := by simp [List.getD]
  refine ⟨g, cap, w', fun ty => hrun, ⟨vs ++ [.slice ua un uc], by simp [hvl], by rw [hlen]; exact how, fun j hj => ?_, fun i j hij hj => ?_, fun k hk => ?_, fun j hj k hk => ?_⟩, hr⟩
  · by_cases e : j < xss.length
    · rw [hget j e, hgex j e]; exact (hvi j e).kept hg (row_sep (hvi j e) hvo)
    · obtain rfl : j = xss.length := by rw [hlen] at hj; omega
      rw [hgl, hglx]; exact hu2.kept hg (row_sep hu2 hvo)
  · by_cases e : j < xss.length
    · rw [hget j e, hget i (by omega)]; exact hvs i j hij e
    · obtain rfl : j = xss.length := by rw [hlen] at hj; omega
      rw [hgl, hget i hij]
      cases hbk : (vs.getD i nilV).ownBlock with
      | none => exact Or.inl hbk
      | some k => exact Or.inr (by rw [hbk]; exact fun e2 => hs k e2.symm (hv2 i hij k hbk))
  · simp only [Value.ownBlock, Option.some.injEq] at hk
    subst hk
    rcases hgg with h1 | h1
    · exact Or.inl (hv1 _ h1)
    · exact Or.inr (Or.inr h1)
  · by_cases e : j < xss.length
    · rw [hget j e] at hk; exact Or.inl (hv2 j e k hk)
    · obtain rfl : j = xss.length := by rw [hlen] at hj; omega
      rw [hgl] at hk; exact Or.inr (Or.inl hk)

/-- The slice at address ao reads as these lists; a row of no address is empty. -/
def RdNN (w : World) (ao : Option Addr) (xss : List (List Int)) : Prop :=
  xss = [] ∨ ∃ b off, ao = some ⟨b, off, none⟩ ∧ ∀ j, j < xss.length → ∃ ro c, w.cell? ⟨b, off + j, none⟩ = some (.slice ro (xss.getD j []).length c) ∧ Rd w ro (xss.getD j []) ∧ (ro = none → (xss.getD j []).length = 0 ∧ c = 0)
theorem RdNN.later {w w' : World} {ao : Option Addr} {xss : List (List Int)} (h : RdNN w ao xss) (hb : Below w.heap.size w w') : RdNN w' ao xss := by
  rcases h with h | ⟨b, off, he, hc⟩
  · exact Or.inl h
  · refine Or.inr ⟨b, off, he, fun j hj => ?_⟩
    obtain ⟨ro, c, h1, h2, h3⟩ := hc j hj
    exact ⟨ro, c, by rw [hb.cell (p := ⟨b, off + j, none⟩) (World.block_lt_of_cell? w _ h1)]; exact h1, h2.later hb, h3⟩
theorem RdNN.get {w : World} {ao : Option Addr} {xss : List (List Int)} (h : RdNN w ao xss) {k : Nat} (hk : k < xss.length) : ∃ b o ro c, ao = some ⟨b, o, none⟩ ∧ w.cell? ⟨b, o + k, none⟩ = some (.slice ro (xss.getD k []).length c) ∧ Rd w ro (xss.getD k []) ∧ (ro = none → (xss.getD k []).length = 0 ∧ c = 0) := by
  rcases h with rfl | ⟨b, o, rfl, hc⟩
  · simp at hk
  · obtain ⟨ro, c, h1, h2, h3⟩ := hc k hk
    exact ⟨b, o, ro, c, rfl, h1, h2, h3⟩
theorem OwnIP.nn {w : World} {lo : Nat} {pp : Nat → Prop} {ao : Option Addr} {n c : Nat} {xss : List (List Int)} (h : OwnIP w lo pp (.slice ao n c) xss) : RdNN w ao xss := by
  obtain ⟨vs, hl, ho, hi, _⟩ := h
  rcases ho.2 with ⟨h0, hz⟩ | ⟨g, cap, cur, hv, _, hg, _, _, _, _⟩
  · exact Or.inl (List.length_eq_zero_iff.1 hz)
  · simp only [Value.slice.injEq] at hv
    obtain ⟨rfl, rfl, rfl⟩ := hv
    refine Or.inr ⟨g, 0, rfl, fun j hj => ?_⟩
    have hc := World.ownsRow.cellAt ho j (by omega)
    obtain ⟨ro, c, hv, hr⟩ := (hi j hj).rd
    have e : vs.getD j nilV = vs[j]'(by omega) := by simp [List.getD, show j < vs.length by omega]
    refine ⟨ro, c, ?_, hr, ?_⟩
    · rw [Nat.zero_add, hc, List.getElem?_eq_getElem (by omega), ← e, hv]
    · have := hi j hj
      rw [hv] at this
      exact this.nil

theorem RdNN.ii {w : World} {ao : Option Addr} {xss : List (List Int)} (h : RdNN w ao xss) : RdII w ao xss := by
  rcases h with h | ⟨b, o, e, hc⟩
  · exact Or.inl h
  · exact Or.inr ⟨b, o, e, fun j hj => by obtain ⟨ro, c, h1, h2, _⟩ := hc j hj; exact ⟨ro, c, h1, h2⟩⟩

set_option maxHeartbeats 2000000 in
theorem eachII_c (ao : Option Addr) (n c : Nat) (xss : List (List Int)) (w : World) (hx : xss.length = n) (hn : n ≤ 1000) (hr : RdNN w ao xss) (hl : ∀ l ∈ xss, l.length ≤ 1000) :
    Calls Try.prog 63 #[.slice ao n c, .func (.func 59) #[] #[]] w fun e w' => ∃ a' c', e = .returned (.slice a' n c') ∧ OwnIP w' w.heap.size (fun k => w.heap.size ≤ k ∧ k < w'.heap.size) (.slice a' n c') xss ∧ Below w.heap.size w w' := by
  have HX : Hid (xss.length = n) := hx
  have HR : Hid (RdNN w ao xss) := hr
  have HL : Hid (∀ l ∈ xss, l.length ≤ 1000) := hl
  clear hx hr hl
  go_enter Try.func63, Try.ntmps63
  go_wp2
  go_loopw [5, 10] (fun lv iv wr => ∃ (k : Nat) (a' : Option Addr) (c' : Nat), k ≤ n ∧ iv = .int .i64 k ∧ lv = .slice a' k c' ∧ Hid (OwnIP wr w.heap.size (fun q => w.heap.size ≤ q ∧ q < wr.heap.size) (.slice a' k c') (xss.take k)) ∧ Hid (Below w.heap.size w wr)) (fun _ iv _ => n - (intOf iv).toNat)
  case atStart => exact ⟨0, none, 0, Nat.zero_le _, rfl, rfl, by show OwnIP _ _ _ _ _; rw [List.take_zero]; exact nilIP w w.heap.size _, Below.refl _ _⟩
  case round =>
    obtain ⟨k, a', c', hk, rfl, rfl, HO, HB⟩ := hrel
    by_cases hlt : k < n
    case neg =>
      obtain rfl : k = n := by omega
      have HO2 : Hid (OwnIP wr w.heap.size (fun q => w.heap.size ≤ q ∧ q < wr.heap.size) (.slice a' k c') xss) := by have := HO.out; rw [List.take_of_length_le (by rw [HX.out]; exact Nat.le_refl _)] at this; exact this
      clear HO
      go_wp2
      go_ret
      exact ⟨_, _, rfl, HO2.out, HB.out⟩
    have hkl : k < xss.length := by rw [HX.out]; exact hlt
    have k0 : (0 : Int) ≤ (k : Int) := by omega
    have k1 : (k : Int) < (n : Int) := by omega
    obtain ⟨b, o, ro, rc, rfl, g1, hro, hnil⟩ := (HR.out.later HB.out).get hkl
    have hlk := HL.out _ (mem_getD [] hkl)
    have htk : xss.take (k + 1) = xss.take k ++ [xss.getD k []] := take_snoc [] hkl
    have HTK : Hid (xss.take (k + 1) = xss.take k ++ [xss.getD k []]) := htk
    have htl : (xss.take k).length = k := by rw [List.length_take]; omega
    have HTL : Hid ((xss.take k).length = k) := htl
    generalize hrow : xss.getD k [] = row at g1 hro hlk hnil HTK
    obtain ⟨rn, hrn⟩ : ∃ rn, row.length = rn := ⟨_, rfl⟩
    rw [hrn] at g1 hlk hnil
    have q := copyOfInts_c ro rn rc row wr hrn (by omega) hro hnil
    clear hkl hro hnil hrow htk htl hrn
    go_wp2_with fail
    refine q.mono ?_
    clear q g1
    rintro e w2 ⟨ua, uc, rfl, ho, hb⟩
    have hsz2 : wr.heap.size ≤ w2.heap.size := hb.size
    have hwr : w.heap.size ≤ wr.heap.size := HB.out.size
    have hbl : ∀ q, (Value.slice ua rn uc).ownBlock = some q → wr.heap.size ≤ q ∧ q < w2.heap.size := World.ownsRow.lt ho
    obtain ⟨g, cap, w3, r1, o1, rg⟩ := pushIP_run w2 w.heap.size (fun q => w.heap.size ≤ q ∧ q < wr.heap.size) (.slice a' k c') (xss.take k) ua rn uc row (HO.out.later hb) (ho.mono hwr) (fun q hq => by have := hbl q hq; omega) (by rw [HTL.out]; omega) (by omega) (fun q hq => by omega)
    rw [HTL.out] at r1 o1
    rw [← HTK.out] at o1
    have hlt3 : ∀ q, (Value.slice (some ⟨g, 0, none⟩) (k + 1) cap).ownBlock = some q → q < w3.heap.size := by
      obtain ⟨vs, _, hvo, _⟩ := o1
      exact fun q hq => (World.ownsRow.lt hvo q hq).2
    have HB3 : Hid (Below w.heap.size w w3) := (HB.out.trans (hb.mono hwr)).trans (rg.below (fun q hq => hq.1) (by omega))
    have HO3 : Hid (OwnIP w3 w.heap.size (fun q => w.heap.size ≤ q ∧ q < w3.heap.size) (.slice (some ⟨g, 0, none⟩) (k + 1) cap) (xss.take (k + 1))) := by
      obtain ⟨vs, h1, h2, h3, h4, h5, h6⟩ := o1
      exact ⟨vs, h1, h2, h3, h4, fun q hq => World.ownsRow.lt h2 q hq, fun j hj q hq => World.ownsRow.lt (h3 j hj) q hq⟩
    clear o1 rg hlt3 hbl ho hb HO HB hsz2 hwr
    go_wp2_with (first | (at_builtin; refine Lib.wpList_append_run _ rfl _ _ _ _ rfl _ _ rfl rfl _ _ (r1 _) ?_; clear r1) | fail)
    exact ⟨⟨k + 1, _, cap, by omega, by go_num, rfl, HO3, HB3⟩, by simp [intOf]; omega⟩

end Go.Proofs.Ytbjpkklonjlmiaa
