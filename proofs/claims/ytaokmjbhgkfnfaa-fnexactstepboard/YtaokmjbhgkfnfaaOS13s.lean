/- Chapter 13: the open sitting: what may be proposed, who may sign. -/
import Derived.Test.YtaokmjbhgkfnfaaCB13s
import Derived.Test.YtaokmjbhgkfnfaaY13s
namespace Go.Proofs.Ytaokmjbhgkfnfaa
set_option linter.unusedVariables false
set_option maxRecDepth 1000000
set_option linter.unusedSimpArgs false
open Go.RowKit

/-- Whether a member may sign a list. -/
def maySB (b : BdV) (m l : Int) : Bool := memB b.f m && (decide (l ∈ b.ls) && (decide ((sitM b.e m b.sg []).length = 0) || (decide (m ∈ b.li) && !decide (l ∈ sitM b.e m b.sg []))))

theorem mayPropose_c (f : Int) (la : Option Addr) (ln lc : Nat) (ga : Option Addr) (N : Nat) (ta : Option Addr) (tn tc : Nat) (ls : List Int) (l : Int) (w : World) (ht : ls.length = tn) (htn : tn ≤ 1000) (hrt : Rd w ta ls) (hR : Ris ltI ls) :
    Calls Try.prog 69 #[.agg #[.int .i64 f, .slice la ln lc, .slice ga N N, .slice ta tn tc], .int .i64 l] w fun r w' => r = .returned (.bool (inB l 0 9 && !decide (l ∈ ls))) ∧ Below w.heap.size w w' := by
  have hB := balloc w (.cells #[.int .i64 f, .slice la ln lc, .slice ga N N, .slice ta tn tc] 102)
  have hC := x4_new w (.int .i64 f) (.slice la ln lc) (.slice ga N N) (.slice ta tn tc) 102 w.heap.size rfl
  obtain ⟨V, hV⟩ : ∃ V, w.alloc (.cells #[.int .i64 f, .slice la ln lc, .slice ga N N, .slice ta tn tc] 102) = V := ⟨_, rfl⟩
  rw [hV] at hB hC
  obtain ⟨⟨c0, c1, c2, c3⟩, _⟩ := hC
  have HB0 : Hid (Below w.heap.size w V) := hB
  have q1 := isList_c l V
  have q2 := has_c ta tn tc ls l V ht (by omega) (hrt.later hB) hR
  generalize decide (l ∈ ls) = z2 at q2 ⊢
  cases hz : inB l 0 9
  · rw [hz] at q1
    rw [Bool.false_and]
    clear q2 hB ht hrt hR hz
    go_enter Try.func69, Try.ntmps69
    go_wp2_with fail
    clear hV
    refine q1.mono ?_
    rintro e w' ⟨rfl, hw⟩
    subst w'
    go_wp2
    go_ret
    exact ⟨rfl, HB0.out⟩
  · rw [hz] at q1
    rw [Bool.true_and]
    clear hB ht hrt hR hz
    go_enter Try.func69, Try.ntmps69
    go_wp2_with fail
    clear hV
    refine q1.mono ?_
    rintro e w' ⟨rfl, hw⟩
    subst w'
    go_wp2_with fail
    refine q2.mono ?_
    rintro e w2 ⟨rfl, hb⟩
    go_wp2
    go_ret
    exact ⟨rfl, HB0.out.trans (hb.mono HB0.out.size)⟩

set_option maxHeartbeats 2000000 in
theorem maySign_c (f : Int) (la : Option Addr) (ln lc : Nat) (ga : Option Addr) (N : Nat) (ta : Option Addr) (tn tc : Nat) (li ls : List Int) (xss : List (List Int)) (m l : Int) (w : World) (h0 : 0 ≤ f) (h2 : f ≤ 2) (hN : 3 * f + 1 = (N : Int)) (hl : li.length = ln) (hln : ln ≤ 1000) (hrl : Rd w la li) (hRl : Ris ltI li) (ht : ls.length = tn) (htn : tn ≤ 1000) (hrt : Rd w ta ls) (hR : Ris ltI ls) (hx : xss.length = N) (hr : RdII w ga xss) (hRR : ∀ l ∈ xss, Ris ltI l) (hlen : ∀ l ∈ xss, l.length ≤ 1000) :
    Calls Try.prog 71 #[.agg #[.int .i64 f, .slice la ln lc, .slice ga N N, .slice ta tn tc], .int .i64 m, .int .i64 l] w fun r w' => r = .returned (.bool (memB f m && (decide (l ∈ ls) && (decide ((xss.getD m.toNat []).length = 0) || (decide (m ∈ li) && !decide (l ∈ xss.getD m.toNat [])))))) ∧ Below w.heap.size w w' := by
  have hB := balloc w (.cells #[.int .i64 f, .slice la ln lc, .slice ga N N, .slice ta tn tc] 102)
  have hC := x4_new w (.int .i64 f) (.slice la ln lc) (.slice ga N N) (.slice ta tn tc) 102 w.heap.size rfl
  obtain ⟨V, hV⟩ : ∃ V, w.alloc (.cells #[.int .i64 f, .slice la ln lc, .slice ga N N, .slice ta tn tc] 102) = V := ⟨_, rfl⟩
  rw [hV] at hB hC
  have HC : Hid (X4 V w.heap.size (.int .i64 f) (.slice la ln lc) (.slice ga N N) (.slice ta tn tc)) := hC
  obtain ⟨⟨c0, c1, c2, c3⟩, _⟩ := hC
  have HB0 : Hid (Below w.heap.size w V) := hB
  have q1 := hasMember_c f (.slice la ln lc) m V h0 h2
  have HQ2 : Hid (∀ wx, Below V.heap.size V wx → Calls Try.prog 99 #[.slice ta tn tc, .int .i64 l] wx fun e w' => e = .returned (.bool (decide (l ∈ ls))) ∧ Below wx.heap.size wx w') := fun wx h => has_c ta tn tc ls l wx ht (by omega) ((hrt.later hB).later h) hR
  have HQ3 : Hid (∀ wx, Below V.heap.size V wx → Calls Try.prog 100 #[.agg #[.int .i64 f, .slice la ln lc], .int .i64 m] wx fun e w' => e = .returned (.bool (decide (m ∈ li))) ∧ Below wx.heap.size wx w') := fun wx h => isLiar_c f la ln lc li m wx hl (by omega) ((hrl.later hB).later h) hRl
  cases hz1 : memB f m
  · rw [hz1] at q1
    rw [Bool.false_and]
    clear hB ht hrt hR hz1 hl hrl hRl hx hr hRR hlen h0 h2 hN HQ2 HQ3
    go_enter Try.func71, Try.ntmps71
    go_wp2_with fail
    clear hV
    refine q1.mono ?_
    rintro e w1 ⟨rfl, hb⟩
    go_wp2
    go_ret
    exact ⟨rfl, HB0.out.trans (hb.mono HB0.out.size)⟩
  rw [hz1] at q1
  rw [Bool.true_and]
  cases hz2 : decide (l ∈ ls)
  · rw [hz2] at HQ2
    rw [Bool.false_and]
    clear hB ht hrt hR hz1 hz2 hl hrl hRl hx hr hRR hlen h0 h2 hN HQ3
    go_enter Try.func71, Try.ntmps71
    go_wp2_with fail
    clear hV c0 c1 c2 c3
    refine q1.mono ?_
    rintro e w1 ⟨rfl, hb⟩
    obtain ⟨⟨c0, c1, c2, c3⟩, _⟩ := HC.out.later hb
    have HB1 : Hid (Below V.heap.size V w1) := hb
    clear hb
    go_wp2_with fail
    refine (HQ2.out _ HB1.out).mono ?_
    rintro e w2 ⟨rfl, hb⟩
    go_wp2
    go_ret
    exact ⟨rfl, HB0.out.trans ((HB1.out.trans (hb.mono HB1.out.size)).mono HB0.out.size)⟩
  rw [hz2] at HQ2
  rw [Bool.true_and]
  have hm := inB_iff.1 hz1
  obtain ⟨k, rfl⟩ : ∃ k : Nat, m = (k : Nat) := ⟨m.toNat, by omega⟩
  have hkN : k < N := by omega
  have hkl : k < xss.length := by omega
  rw [show ((k : Nat) : Int).toNat = k by omega]
  obtain ⟨b, o, ro, rc, rfl, g1, hro⟩ := (hr.later hB).get hkl
  have hris := hRR _ (mem_getD [] hkl)
  have hlk := hlen _ (mem_getD [] hkl)
  have k0 : (0 : Int) ≤ (k : Int) := by omega
  have k1 : (k : Int) < (N : Int) := by omega
  have HG1 : Hid (∀ wx, Below V.heap.size V wx → wx.cell? ⟨b, o + k, none⟩ = some (.slice ro (xss.getD k []).length rc)) := fun wx h => cell_keep (S := 0) h g1
  have HQ4 : Hid (∀ wx, Below V.heap.size V wx → Calls Try.prog 99 #[.slice ro (xss.getD k []).length rc, .int .i64 l] wx fun e w' => e = .returned (.bool (decide (l ∈ xss.getD k []))) ∧ Below wx.heap.size wx w') := fun wx h => has_c ro _ rc (xss.getD k []) l wx rfl (by omega) (hro.later h) hris
  generalize decide (((k : Nat) : Int) ∈ li) = z3 at HQ3 ⊢
  generalize decide (l ∈ xss.getD k []) = z4 at HQ4 ⊢
  generalize (xss.getD k []).length = rn at HG1 HQ4 hlk ⊢
  clear hB ht hrt hR hz1 hz2 hl hrl hRl hx hr hRR hlen h0 h2 hN hm hkN hkl g1 hro hris
  by_cases hrn : rn = 0
  · subst hrn
    rw [decide_eq_true rfl, Bool.true_or]
    clear HQ3 HQ4
    go_enter Try.func71, Try.ntmps71
    go_wp2_with fail
    clear hV c0 c1 c2 c3
    refine q1.mono ?_
    rintro e w1 ⟨rfl, hb⟩
    obtain ⟨⟨c0, c1, c2, c3⟩, _⟩ := HC.out.later hb
    have HB1 : Hid (Below V.heap.size V w1) := hb
    clear hb
    go_wp2_with fail
    refine (HQ2.out _ HB1.out).mono ?_
    clear c0 c1 c2 c3
    rintro e w2 ⟨rfl, hb⟩
    have HB2 : Hid (Below V.heap.size V w2) := HB1.out.trans (hb.mono HB1.out.size)
    clear hb HB1
    obtain ⟨⟨c0, c1, c2, c3⟩, _⟩ := HC.out.later HB2.out
    have e1 := HG1.out w2 HB2.out
    go_wp2
    go_ret
    exact ⟨rfl, HB0.out.trans (HB2.out.mono HB0.out.size)⟩
  · rw [decide_eq_false hrn, Bool.false_or]
    have hrn2 : ((rn : Int) == 0) = false := by simp; omega
    cases z3
    · rw [Bool.false_and]
      clear hrn HQ4
      go_enter Try.func71, Try.ntmps71
      go_wp2_with fail
      clear hV c0 c1 c2 c3
      refine q1.mono ?_
      rintro e w1 ⟨rfl, hb⟩
      obtain ⟨⟨c0, c1, c2, c3⟩, _⟩ := HC.out.later hb
      have HB1 : Hid (Below V.heap.size V w1) := hb
      clear hb
      go_wp2_with fail
      refine (HQ2.out _ HB1.out).mono ?_
      clear c0 c1 c2 c3
      rintro e w2 ⟨rfl, hb⟩
      have HB2 : Hid (Below V.heap.size V w2) := HB1.out.trans (hb.mono HB1.out.size)
      clear hb HB1
      obtain ⟨⟨c0, c1, c2, c3⟩, _⟩ := HC.out.later HB2.out
      have e1 := HG1.out w2 HB2.out
      go_wp2_with fail
      refine (HQ3.out _ HB2.out).mono ?_
      rintro e w3 ⟨rfl, hb⟩
      go_wp2
      go_ret
      exact ⟨rfl, HB0.out.trans ((HB2.out.trans (hb.mono HB2.out.size)).mono HB0.out.size)⟩
    · rw [Bool.true_and]
      clear hrn
      go_enter Try.func71, Try.ntmps71
      go_wp2_with fail
      clear hV c0 c1 c2 c3
      refine q1.mono ?_
      rintro e w1 ⟨rfl, hb⟩
      obtain ⟨⟨c0, c1, c2, c3⟩, _⟩ := HC.out.later hb
      have HB1 : Hid (Below V.heap.size V w1) := hb
      clear hb
      go_wp2_with fail
      refine (HQ2.out _ HB1.out).mono ?_
      clear c0 c1 c2 c3
      rintro e w2 ⟨rfl, hb⟩
      have HB2 : Hid (Below V.heap.size V w2) := HB1.out.trans (hb.mono HB1.out.size)
      clear hb HB1
      obtain ⟨⟨c0, c1, c2, c3⟩, _⟩ := HC.out.later HB2.out
      have e1 := HG1.out w2 HB2.out
      go_wp2_with fail
      refine (HQ3.out _ HB2.out).mono ?_
      rintro e w3 ⟨rfl, hb⟩
      have HB3 : Hid (Below V.heap.size V w3) := HB2.out.trans (hb.mono HB2.out.size)
      clear hb
      go_wp2_with fail
      refine (HQ4.out _ HB3.out).mono ?_
      rintro e w4 ⟨rfl, hb⟩
      go_wp2
      go_ret
      exact ⟨rfl, HB0.out.trans ((HB3.out.trans (hb.mono HB3.out.size)).mono HB0.out.size)⟩

end Go.Proofs.Ytaokmjbhgkfnfaa
