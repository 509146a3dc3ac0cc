/- Chapter 13: steps put behind a row of steps. -/
import Derived.Test.YtaokmjbhgkfnfaaTR13q
import Derived.Test.YtaokmjbhgkfnfaaAB13q
namespace Go.Proofs.Ytaokmjbhgkfnfaa
set_option linter.unusedVariables false
set_option maxRecDepth 1000000
set_option linter.unusedSimpArgs false
open Go.RowKit

theorem appendT_run (w : World) (base : Nat) (v : Value) (xs ys : List (Int × Int × Int)) (ao : Option Addr) (m c : Nat) (hown : OwnT w base v xs) (hr : RdT w ao ys) (hm : ys.length = m) (hnil : ao = none → m = 0 ∧ c = 0) (hb : xs.length + m ≤ 1000000) (hbase : base ≤ w.heap.size) :
  ∃ v' w', (∀ ty, (Builtin.append_ #[24, 24] ty #[v, .slice ao m c]).run Try.prog w = .ok v' w') ∧ OwnT w' base v' (xs ++ ys) ∧ w.grownBy w' v.ownBlock ∧ Below base w w' := by
 obtain ⟨i0, hi, hz0, hz1, hz2⟩ := info_parts Try.infoBoardStep
 have hge : ∀ k, v.ownBlock = some k → base ≤ k := own_block_geT hown
 cases ao with
 | none =>
  obtain ⟨rfl, rfl⟩ := hnil rfl
  obtain rfl := List.length_eq_zero_iff.1 hm
  refine ⟨v, w, fun ty => run_append_owned_none (P := Try.prog) (w := w) base 24 ty 40 i0 3 Try.underlying24 hi v xs.length (cellsT xs) hown, by rw [List.append_nil]; exact hown, World.grownBy.refl _ _, Below.refl _ _⟩
 | some a =>
  have hnews : ∀ j u, (cellsT ys)[j]? = some u → w.cell? (a.add j) = some u := fun j u hj => by
   rcases hr with rfl | ⟨b', o', he, hc⟩
   ·simp [cellsT] at hj
   ·simp only [Option.some.injEq] at he
    subst he
    have hjl := (List.getElem?_eq_some_iff.1 hj).1
    rw [cellsT_length] at hjl
    rw [Go.WideShapes.add_plain]
    have hq : j / 3 < ys.length := by omega
    have h1 := cellsT_at ys (j / 3) hq
    have h2 := hc (j / 3) hq
    rcases (by omega : j % 3 = 0 ∨ j % 3 = 1 ∨ j % 3 = 2) with e | e | e
    ·have h3 := h1.1
     rw [show j / 3 * 3 = j by omega, hj] at h3
     have h4 := h2.1
     rw [show o' + j / 3 * 3 = o' + j by omega] at h4
     rw [h4, ← Option.some.inj h3]
    ·have h3 := h1.2.1
     rw [show j / 3 * 3 + 1 = j by omega, hj] at h3
     have h4 := h2.2.1
     rw [show o' + j / 3 * 3 + 1 = o' + j by omega] at h4
     rw [h4, ← Option.some.inj h3]
    ·have h3 := h1.2.2
     rw [show j / 3 * 3 + 2 = j by omega, hj] at h3
     have h4 := h2.2.2
     rw [show o' + j / 3 * 3 + 2 = o' + j by omega] at h4
     rw [h4, ← Option.some.inj h3]
  obtain ⟨v', w', hrun, hown', hgrow, _⟩ := run_append_own (P := Try.prog) w base 24 24 40 i0 (.agg #[.int .i64 0, .int .i64 0, .int .i64 0]) 3 24 Try.underlying24 hi hz0 hz1 hz2 rfl (by decide) v xs.length (cellsT xs) hown a m c (cellsT ys) (by rw [cellsT_length, hm]) hnews (cellsT_one _) (by unfold maxLen; omega) (by omega) hbase
  refine ⟨v', w', fun ty => hrun, ?_, hgrow, (Below.refl _ _).grown hgrow hbase hge⟩
  unfold OwnT
  rw [List.length_append, hm]
  simpa [cellsT] using hown'
theorem litT (w : World) (x y z : Int) : RdT (w.alloc (.cells #[.int .i64 x, .int .i64 y, .int .i64 z] 40)) (some ⟨w.heap.size, 0, none⟩) [(x, y, z)] := Or.inr ⟨w.heap.size, 0, rfl, fun j hj => by
 obtain rfl : j = 0 := by simp at hj; omega
 simp [List.getD]⟩

end Go.Proofs.Ytaokmjbhgkfnfaa
namespace Go.Proofs.Ytaokmjbhgkfnfaa
set_option linter.unusedVariables false
set_option maxRecDepth 1000000
set_option linter.unusedSimpArgs false

theorem com_none {b : BdV} (hg : goodBd b = true) {n : Nat} {ep x y : Int} (h : x ≠ y) : comL n ep b.li b.sg x y = [] := by
 obtain ⟨f, e, sg, li, ls⟩ := b
 have hk := (good_is hg).kp
 cases hc : comL n ep li sg x y with
 | nil => rfl
 | cons z r =>
  have hz : z ∈ comL n ep li sg x y := by rw [hc]; exact List.mem_cons_self
  obtain ⟨m, rfl, _, hp⟩ := upto_mem.1 hz
  simp only [Bool.and_eq_true, Bool.not_eq_true', decide_eq_false_iff_not] at hp
  obtain ⟨h1, h2, h3⟩ := hp
  obtain ⟨s, hs, s0, s1, s2⟩ := hasS_iff.1 h2
  obtain ⟨t, ht, t0, t1, t2⟩ := hasS_iff.1 h3
  simp only [keptB, decide_eq_true_eq] at hk
  exact absurd ⟨t0.trans s0.symm, t1.trans s1.symm, fun e2 => h (by rw [← s2, ← t2, e2]), by rw [s1]; exact h1⟩ (hk s hs t ht)
theorem nodup_sub : ∀ {l m : List Int}, l.Nodup → (∀ x ∈ l, x ∈ m) → l.length ≤ m.length
 | [], m, _, _ => Nat.zero_le _
 | x :: r, m, hn, hs => by
  have hx := hs x List.mem_cons_self
  obtain ⟨h1, h2⟩ := List.nodup_cons.1 hn
  have ih := nodup_sub (l := r) (m := m.erase x) h2 (fun y hy => by
   have hne : y ≠ x := fun e => h1 (e ▸ hy)
   exact (List.mem_erase_of_ne hne).2 (hs y (List.mem_cons_of_mem _ hy)))
  have e1 := List.length_erase_of_mem hx
  have e2 := List.length_pos_of_mem hx
  simp only [List.length_cons]
  omega
theorem filter_two (p q : Nat → Bool) : ∀ l : List Nat, (l.filter p).length + (l.filter q).length ≤ (l.filter fun x => p x && q x).length + l.length
 | [] => by simp
 | x :: r => by
  have ih := filter_two p q r
  simp only [List.filter_cons]
  cases p x <;> cases q x <;> simp <;> omega
theorem upto_two (n : Nat) (p q : Nat → Bool) : (upto n p).length + (upto n q).length ≤ (upto n fun x => p x && q x).length + n := by
 have := filter_two p q (List.range n)
 simpa [upto] using this
theorem cert_one {b : BdV} (hg : goodBd b = true) (ep : Int) : (certL (nOf b.f) (qOf b.f) ep b.sg).length ≤ 1 := by
 obtain ⟨f, e, sg, li, ls⟩ := b
 have G := good_is hg
 refine Classical.byContradiction fun hn => ?_
 dsimp only at hn
 obtain ⟨x, hx, y, hy, hne⟩ := ris_two (upto_ris _ _) (l := certL (nOf f) (qOf f) ep sg) (by omega)
 obtain ⟨a, rfl, _, ha⟩ := upto_mem.1 hx
 obtain ⟨c, rfl, _, hc⟩ := upto_mem.1 hy
 simp only [decide_eq_true_eq] at ha hc
 have h2 := upto_two (nOf f) (hasS ep sg (a : Nat)) (hasS ep sg (c : Nat))
 have h3 : (upto (nOf f) fun m => hasS ep sg (a : Nat) m && hasS ep sg (c : Nat) m).length ≤ li.length := by
  refine nodup_sub (ris_nodup (upto_ris _ _)) (fun z hz => ?_)
  refine Classical.byContradiction fun hzl => ?_
  obtain ⟨m, rfl, hm, hp⟩ := upto_mem.1 hz
  have hcom := com_none (b := ⟨f, e, sg, li, ls⟩) hg (n := nOf f) (ep := ep) hne
  have : (m : Int) ∈ comL (nOf f) ep li sg (a : Nat) (c : Nat) := upto_mem.2 ⟨m, rfl, hm, by
   rw [Bool.and_eq_true] at hp
   simp [hzl, hp.1, hp.2]⟩
  rw [show comL (nOf f) ep li sg (a : Nat) (c : Nat) = [] from hcom] at this
  simp at this
 have h4 := G.ln
 have h5 := G.f0
 have h6 : (nOf f : Int) = 3 * f + 1 := by unfold nOf; omega
 have h7 : (qOf f : Int) = 2 * f + 1 := by unfold qOf; omega
 omega
theorem certV_one {b : BdV} (ep : Int) : (certV b ep).length ≤ 1 := by
 unfold certV
 split
 ·rename_i h
  unfold certB at h
  rw [Bool.and_eq_true] at h
  exact cert_one h.1 ep
 ·simp
theorem comV_none {b : BdV} {ep x y : Int} (h : x ≠ y) : comV b ep x y = [] := by
 unfold comV
 split
 ·rename_i h2
  unfold comB at h2
  rw [Bool.and_eq_true] at h2
  exact com_none h2.1 h
 ·rfl

end Go.Proofs.Ytaokmjbhgkfnfaa
