/- Chapter 13: plain facts: two quorums have an honest member in common (Lamport, Shostak and Pease). -/
import Derived.Test.YtaokmjbhgkfnfaaAB13p
namespace Go.Proofs.Ytaokmjbhgkfnfaa
set_option linter.unusedVariables false
set_option maxRecDepth 1000000
set_option linter.unusedSimpArgs false

theorem com_none {b : BdV} (hg : goodBd b = true) {n : Nat} {ep x y : Int} (h : x ≠ y) : comL n ep b.li b.sg x y = [] := by
  obtain ⟨f, e, sg, li, ls⟩ := b
  have hk := (good_is hg).kp
  cases hc : comL n ep li sg x y with
  | nil => rfl
  | cons z r =>
    have hz : z ∈ comL n ep li sg x y := by rw [hc]; exact List.mem_cons_self
    obtain ⟨m, rfl, _, hp⟩ := upto_mem.1 hz
    simp only [Bool.and_eq_true, Bool.not_eq_true', decide_eq_false_iff_not] at hp
    obtain ⟨h1, h2, h3⟩ := hp
    obtain ⟨s, hs, s0, s1, s2⟩ := hasS_iff.1 h2
    obtain ⟨t, ht, t0, t1, t2⟩ := hasS_iff.1 h3
    simp only [keptB, decide_eq_true_eq] at hk
    exact absurd ⟨t0.trans s0.symm, t1.trans s1.symm, fun e2 => h (by rw [← s2, ← t2, e2]), by rw [s1]; exact h1⟩ (hk s hs t ht)
theorem nodup_sub : ∀ {l m : List Int}, l.Nodup → (∀ x ∈ l, x ∈ m) → l.length ≤ m.length
  | [], m, _, _ => Nat.zero_le _
  | x :: r, m, hn, hs => by
    have hx := hs x List.mem_cons_self
    obtain ⟨h1, h2⟩ := List.nodup_cons.1 hn
    have ih := nodup_sub (l := r) (m := m.erase x) h2 (fun y hy => by
      have hne : y ≠ x := fun e => h1 (e ▸ hy)
      exact (List.mem_erase_of_ne hne).2 (hs y (List.mem_cons_of_mem _ hy)))
    have e1 := List.length_erase_of_mem hx
    have e2 := List.length_pos_of_mem hx
    simp only [List.length_cons]
    omega
theorem filter_two (p q : Nat → Bool) : ∀ l : List Nat, (l.filter p).length + (l.filter q).length ≤ (l.filter fun x => p x && q x).length + l.length
  | [] => by simp
  | x :: r => by
    have ih := filter_two p q r
    simp only [List.filter_cons]
    cases p x <;> cases q x <;> simp <;> omega
theorem upto_two (n : Nat) (p q : Nat → Bool) : (upto n p).length + (upto n q).length ≤ (upto n fun x => p x && q x).length + n := by
  have := filter_two p q (List.range n)
  simpa [upto] using this
theorem cert_one {b : BdV} (hg : goodBd b = true) (ep : Int) : (certL (nOf b.f) (qOf b.f) ep b.sg).length ≤ 1 := by
  obtain ⟨f, e, sg, li, ls⟩ := b
  have G := good_is hg
  refine Classical.byContradiction fun hn => ?_
  dsimp only at hn
  obtain ⟨x, hx, y, hy, hne⟩ := ris_two (upto_ris _ _) (l := certL (nOf f) (qOf f) ep sg) (by omega)
  obtain ⟨a, rfl, _, ha⟩ := upto_mem.1 hx
  obtain ⟨c, rfl, _, hc⟩ := upto_mem.1 hy
  simp only [decide_eq_true_eq] at ha hc
  have h2 := upto_two (nOf f) (hasS ep sg (a : Nat)) (hasS ep sg (c : Nat))
  have h3 : (upto (nOf f) fun m => hasS ep sg (a : Nat) m && hasS ep sg (c : Nat) m).length ≤ li.length := by
    refine nodup_sub (ris_nodup (upto_ris _ _)) (fun z hz => ?_)
    refine Classical.byContradiction fun hzl => ?_
    obtain ⟨m, rfl, hm, hp⟩ := upto_mem.1 hz
    have hcom := com_none (b := ⟨f, e, sg, li, ls⟩) hg (n := nOf f) (ep := ep) hne
    have : (m : Int) ∈ comL (nOf f) ep li sg (a : Nat) (c : Nat) := upto_mem.2 ⟨m, rfl, hm, by
      rw [Bool.and_eq_true] at hp
      simp [hzl, hp.1, hp.2]⟩
    rw [show comL (nOf f) ep li sg (a : Nat) (c : Nat) = [] from hcom] at this
    simp at this
  have h4 := G.ln
  have h5 := G.f0
  have h6 : (nOf f : Int) = 3 * f + 1 := by unfold nOf; omega
  have h7 : (qOf f : Int) = 2 * f + 1 := by unfold qOf; omega
  omega
theorem certV_one {b : BdV} (ep : Int) : (certV b ep).length ≤ 1 := by
  unfold certV
  split
  · rename_i h
    unfold certB at h
    rw [Bool.and_eq_true] at h
    exact cert_one h.1 ep
  · simp
end Go.Proofs.Ytaokmjbhgkfnfaa
