/- Chapter 13: what a sitting tells. -/
import Derived.Test.YtaokmjbhgkfnfaaU13s
namespace Go.Proofs.Ytaokmjbhgkfnfaa
set_option linter.unusedVariables false
set_option maxRecDepth 1000000
set_option linter.unusedSimpArgs false
open Go.RowKit

theorem takeV13 {P : Program} {ops : Array Oper} {Q : Exit → Act → World → Prop} {md : Region.Mode} {S : World → Prop} {i : Nat} {oi : Oper} {v : Value} {d : Option Tmp} {fuel : Nat} {listed : Array Bool} {a : Act} {w : World} (hi : ops[i]? = some oi) (hd : oi.dst = d)
    (hs : Region.noSelect ops = true) (hf : Region.free md ops listed i = true) (hr : (Region.ready md ops listed).contains i = true)
    (hQ : ∀ c a w, Q (.panic c) (a.put d v) w → Q (.panic c) a w) (hy : YieldsIf P ops S oi v a) (hS : S w)
    (h : wpAnyH P md ops Q S fuel (listed.setIfInBounds i true) (a.put d v) w) : wpAnyH P md ops Q S (fuel + 1) listed a w := by
  subst hd
  exact wpAnyH_take hi hs hf hr hQ hy hS h

/-- An honest member has signed one list at most. -/
def keptX (N : Nat) (li : List Int) (xss : List (List Int)) : Bool := (List.range N).all fun m => !(decide (1 < (xss.getD m []).length) && !decide (((m : Nat) : Int) ∈ li))
theorem all_range_false {n k : Nat} {p : Nat → Bool} (hk : k < n) (h : p k = false) : (List.range n).all p = false := by
  rw [Bool.eq_false_iff]; intro g
  have := List.all_eq_true.1 g k (List.mem_range.2 hk)
  rw [h] at this; cases this
theorem all_range_true {n : Nat} {p : Nat → Bool} (h : ∀ j, j < n → p j = true) : (List.range n).all p = true := List.all_eq_true.2 (fun x hx => h x (List.mem_range.1 hx))

set_option maxHeartbeats 1000000 in
theorem isKept_c (f : Int) (la : Option Addr) (ln lc : Nat) (ga : Option Addr) (N : Nat) (li : List Int) (xss : List (List Int)) (w : World) (hl : li.length = ln) (hln : ln ≤ 1000) (hrl : Rd w la li) (hR : Ris ltI li) (hx : xss.length = N) (hN : N ≤ 7) (hr : RdII w ga xss) (hRR : ∀ l ∈ xss, Ris ltI l) (hlen : ∀ l ∈ xss, l.length ≤ 1000) :
    Calls Try.prog 64 #[.agg #[.int .i64 f, .slice la ln lc, .slice ga N N]] w fun e w' => e = .returned (.bool (keptX N li xss)) ∧ Below w.heap.size w w' := by
  have hB := balloc w (.cells #[.int .i64 f, .slice la ln lc, .slice ga N N] 97)
  have hC := x3_new w (.int .i64 f) (.slice la ln lc) (.slice ga N N) 97 w.heap.size rfl
  obtain ⟨V, hV⟩ : ∃ V, w.alloc (.cells #[.int .i64 f, .slice la ln lc, .slice ga N N] 97) = V := ⟨_, rfl⟩
  rw [hV] at hB hC
  have HB0 : Hid (Below w.heap.size w V) := hB
  have HC : Hid (X3 V w.heap.size (.int .i64 f) (.slice la ln lc) (.slice ga N N)) := hC
  have HRL : Hid (∀ wx, Below V.heap.size V wx → Rd wx la li) := fun wx h => (hrl.later hB).later h
  have HRX : Hid (∀ wx, Below V.heap.size V wx → RdII wx ga xss) := fun wx h => (hr.later hB).later h
  have HL : Hid (li.length = ln) := hl
  have HX : Hid (xss.length = N) := hx
  have HRI : Hid (Ris ltI li) := hR
  have HRS : Hid (∀ l ∈ xss, Ris ltI l) := hRR
  have HLN : Hid (∀ l ∈ xss, l.length ≤ 1000) := hlen
  obtain ⟨⟨g0, g1, g2⟩, _⟩ := hC
  clear hB hl hrl hR hx hr hRR hlen
  have HF : Hid (∀ k, k < N → (!(decide (1 < (xss.getD k []).length) && !decide (((k : Nat) : Int) ∈ li))) = false → keptX N li xss = false) := fun k hk h => all_range_false hk h
  have HE : Hid ((∀ j, j < N → (!(decide (1 < (xss.getD j []).length) && !decide (((j : Nat) : Int) ∈ li))) = true) → keptX N li xss = true) := fun h => all_range_true h
  generalize keptX N li xss = zb at HF HE ⊢
  go_enter Try.func64, Try.ntmps64
  go_wp2
  clear hV g0 g1 g2
  go_loopw [8] (fun iv wr => ∃ (k : Nat), k ≤ N ∧ iv = .int .i64 k ∧ Hid (∀ j, j < k → (!(decide (1 < (xss.getD j []).length) && !decide (((j : Nat) : Int) ∈ li))) = true) ∧ Hid (Below V.heap.size V wr)) (fun iv _ => N - (intOf iv).toNat)
  case atStart => exact ⟨0, Nat.zero_le _, rfl, fun j h => absurd h (by omega), Below.refl _ _⟩
  case round =>
    obtain ⟨k, hk, rfl, HS, HB⟩ := hrel
    by_cases hlt : k < N
    · have hkl : k < xss.length := by rw [HX.out]; exact hlt
      obtain ⟨b, o, ro, rc, rfl, r1, hro⟩ := (HRX.out _ HB.out).get hkl
      have hris := HRS.out _ (mem_getD [] hkl)
      have hlen := HLN.out _ (mem_getD [] hkl)
      have k0 : (0 : Int) ≤ (k : Int) := by omega
      have k1 : (k : Int) < (N : Int) := by omega
      obtain ⟨⟨c0, c1, c2⟩, _⟩ := HC.out.later HB.out
      have HFk : Hid ((!(decide (1 < (xss.getD k []).length) && !decide (((k : Nat) : Int) ∈ li))) = false → zb = false) := HF.out k hlt
      have HSk : Hid ((!(decide (1 < (xss.getD k []).length) && !decide (((k : Nat) : Int) ∈ li))) = true → ∀ j, j < k + 1 → (!(decide (1 < (xss.getD j []).length) && !decide (((j : Nat) : Int) ∈ li))) = true) := fun h j hj => by
        by_cases e : j = k
        · rw [e]; exact h
        · exact HS.out j (by omega)
      have q := isLiar_c f la ln lc li (k : Int) wr HL.out (by omega) (HRL.out _ HB.out) HRI.out
      generalize (xss.getD k []).length = rn at r1 HFk HSk
      clear hkl hro hris hlen
      by_cases h1 : 1 < rn
      · have h1' : (1 : Int) < (rn : Int) := by omega
        cases hz : decide (((k : Nat) : Int) ∈ li)
        · have HN : Hid (zb = false) := HFk.out (by rw [hz, decide_eq_true h1]; rfl)
          rw [hz] at q
          clear hz HFk HSk h1
          go_wp2_with fail
          refine q.mono ?_
          clear q
          rintro e w' ⟨rfl, hb⟩
          go_wp2
          go_ret
          exact ⟨ret_bool HN.out.symm, HB0.out.trans ((HB.out.trans (hb.mono HB.out.size)).mono HB0.out.size)⟩
        · have HN := HSk.out (by rw [hz]; simp)
          have HN2 : Hid (∀ j, j < k + 1 → (!(decide (1 < (xss.getD j []).length) && !decide (((j : Nat) : Int) ∈ li))) = true) := HN
          rw [hz] at q
          clear hz HFk HSk h1 HN
          go_wp2_with fail
          refine q.mono ?_
          clear q
          rintro e w' ⟨rfl, hb⟩
          go_wp2
          exact ⟨⟨k + 1, by omega, by go_num, HN2, HB.out.trans (hb.mono HB.out.size)⟩, by simp [intOf]; omega⟩
      · have h1' : ¬ (1 : Int) < (rn : Int) := by omega
        have HN2 : Hid (∀ j, j < k + 1 → (!(decide (1 < (xss.getD j []).length) && !decide (((j : Nat) : Int) ∈ li))) = true) := HSk.out (by rw [decide_eq_false h1]; rfl)
        clear q HFk HSk h1
        go_wp2
        exact ⟨⟨k + 1, by omega, by go_num, HN2, HB⟩, by simp [intOf]; omega⟩
    · obtain rfl : k = N := by omega
      have HM : Hid (zb = true) := HE.out HS.out
      go_wp2
      go_ret
      exact ⟨ret_bool HM.out.symm, HB0.out.trans (HB.out.mono HB0.out.size)⟩

end Go.Proofs.Ytaokmjbhgkfnfaa
