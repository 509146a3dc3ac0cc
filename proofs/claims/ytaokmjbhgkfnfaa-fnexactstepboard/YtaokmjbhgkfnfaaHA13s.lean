/- Chapter 13: l13Has of the specification; a step in the specification's words. -/
import Derived.Test.YtaokmjbhgkfnfaaLO13s
namespace Go.Proofs.Ytaokmjbhgkfnfaa
set_option linter.unusedVariables false
set_option maxRecDepth 1000000
set_option linter.unusedSimpArgs false
open Go.RowKit

/-- Whether a member has signed a list in an epoch, any list where the list is below nought. -/
def hasP (ep m x : Int) (sg : List (List Int)) : Bool := sg.any fun s => decide (s.getD 0 0 = ep ∧ s.getD 1 0 = m ∧ (x < 0 ∨ s.getD 2 0 = x))
theorem hasP_iff {ep m x : Int} {sg : List (List Int)} : hasP ep m x sg = true ↔ ∃ s ∈ sg, s.getD 0 0 = ep ∧ s.getD 1 0 = m ∧ (x < 0 ∨ s.getD 2 0 = x) := by
  unfold hasP
  rw [List.any_eq_true]
  simp
theorem hasP_sit {ep m x : Int} {sg : List (List Int)} (h : 0 ≤ x) : hasP ep m x sg = decide (x ∈ sitM ep m sg []) := by
  rw [Bool.eq_iff_iff, hasP_iff, decide_eq_true_eq, sitM_mem]
  constructor
  · rintro ⟨s, hs, h1, h2, h3⟩
    exact Or.inr ⟨s, hs, h1, h2, by omega⟩
  · rintro (h' | ⟨s, hs, h1, h2, h3⟩)
    · simp at h'
    · exact ⟨s, hs, h1, h2, Or.inr h3⟩
theorem hasP_any {ep m : Int} {sg : List (List Int)} : hasP ep m (-1) sg = !decide ((sitM ep m sg []).length = 0) := by
  rw [Bool.eq_iff_iff, hasP_iff]
  simp only [Bool.not_eq_true', decide_eq_false_iff_not, List.length_eq_zero_iff]
  constructor
  · rintro ⟨s, hs, h1, h2, _⟩ h0
    have := (sitM_mem ep m (s.getD 2 0) sg []).2 (Or.inr ⟨s, hs, h1, h2, rfl⟩)
    rw [h0] at this
    simp at this
  · intro h
    obtain ⟨x, hx⟩ := List.exists_mem_of_ne_nil _ h
    rcases (sitM_mem ep m x sg []).1 hx with h' | ⟨s, hs, h1, h2, h3⟩
    · simp at h'
    · exact ⟨s, hs, h1, h2, Or.inl (by omega)⟩
/-- What may be signed, in the specification's words. -/
theorem may_spec {b : BdV} {m l : Int} (hl : l ∈ b.ls → 0 ≤ l) : maySB b m l = (memB b.f m && (decide (l ∈ b.ls) && !(hasP b.e m l b.sg || (!decide (m ∈ b.li) && hasP b.e m (-1) b.sg)))) := by
  unfold maySB
  by_cases h : l ∈ b.ls
  · rw [hasP_sit (hl h), hasP_any]
    cases h2 : sitM b.e m b.sg [] with
    | nil => simp [h]
    | cons a r => 
      cases memB b.f m <;> simp [h]
      cases decide (m ∈ b.li) <;> simp
  · simp [h]

set_option maxHeartbeats 2000000 in
theorem l13Has_c (f e : Int) (sa : Option Addr) (sn sc : Nat) (la : Option Addr) (ln lc : Nat) (ta : Option Addr) (tn tc : Nat) (sg : List (List Int)) (li ls : List Int) (ep m x : Int) (w : World) (hs : sg.length = sn) (hrs : RdII w sa sg) (hg : sgsB f sg = true) :
    Calls Try.prog 95 #[.agg #[.int .i64 f, .int .i64 e, .slice sa sn sc, .slice la ln lc, .slice ta tn tc], .int .i64 ep, .int .i64 m, .int .i64 x] w fun r w' => r = .returned (.bool (hasP ep m x sg)) ∧ Below w.heap.size w w' := by
  have HS : Hid (sg.length = sn) := hs
  have hsn : sn ≤ 200 := by rw [← hs]; exact (sgsB_all hg).1
  have HSG : Hid (∀ k, k < sn → ∃ x0 x1 x2 : Int, sg.getD k [] = [x0, x1, x2]) := fun k hk => by
    have h := (sgsB_all hg).2 _ (mem_getD [] (show k < sg.length by omega))
    obtain ⟨x0, x1, x2, hx, _⟩ := sig_three (f := f) (sigB_mem h).1
    exact ⟨x0, x1, x2, hx⟩
  have HY : Hid (∀ k, k < sn → ∀ x0 x1 x2 : Int, sg.getD k [] = [x0, x1, x2] → x0 = ep → x1 = m → (x < 0 ∨ x2 = x) → hasP ep m x sg = true) := fun k hk x0 x1 x2 h e0 e1 e2 => hasP_iff.2 ⟨_, mem_getD [] (show k < sg.length by omega), by rw [h]; exact ⟨e0, e1, e2⟩⟩
  have HE : Hid ((∀ k, k < sn → ¬ ((sg.getD k []).getD 0 0 = ep ∧ (sg.getD k []).getD 1 0 = m ∧ (x < 0 ∨ (sg.getD k []).getD 2 0 = x))) → hasP ep m x sg = false) := fun h => by
    rw [Bool.eq_false_iff]
    intro h2
    obtain ⟨s, hs', h3⟩ := hasP_iff.1 h2
    obtain ⟨j, hj, rfl⟩ := of_mem_getD [] hs'
    exact h j (by omega) h3
  generalize hasP ep m x sg = zb at HY HE ⊢
  have hB := balloc w (.cells #[.int .i64 f, .int .i64 e, .slice sa sn sc, .slice la ln lc, .slice ta tn tc] 29)
  have hC := x5_new w (.int .i64 f) (.int .i64 e) (.slice sa sn sc) (.slice la ln lc) (.slice ta tn tc) 29 w.heap.size rfl
  obtain ⟨V, hV⟩ : ∃ V, w.alloc (.cells #[.int .i64 f, .int .i64 e, .slice sa sn sc, .slice la ln lc, .slice ta tn tc] 29) = V := ⟨_, rfl⟩
  rw [hV] at hB hC
  have HB0 : Hid (Below w.heap.size w V) := hB
  have HRV : Hid (RdII V sa sg) := hrs.later hB
  obtain ⟨⟨g0, g1, g2, g3, g4⟩, _⟩ := hC
  clear hB hs hrs hg
  go_enter Try.func95, Try.ntmps95
  go_wp2
  clear hV g0 g1 g2 g3 g4
  go_loop [10, 14] (fun rv iv => ∃ k : Nat, k ≤ sn ∧ iv = .int .i64 k ∧ Hid (∀ j, j < k → ¬ ((sg.getD j []).getD 0 0 = ep ∧ (sg.getD j []).getD 1 0 = m ∧ (x < 0 ∨ (sg.getD j []).getD 2 0 = x)))) (fun _ iv => sn - (intOf iv).toNat)
  case atStart => exact ⟨0, Nat.zero_le _, rfl, fun j h => absurd h (by omega)⟩
  case round =>
    obtain ⟨k, hk, rfl, HA⟩ := hrel
    by_cases hlt : k < sn
    case neg =>
      obtain rfl : k = sn := by omega
      have HM : Hid (zb = false) := HE.out HA.out
      go_wp2
      go_ret
      exact ⟨ret_bool HM.out.symm, HB0.out⟩
    have hkl : k < sg.length := by rw [HS.out]; exact hlt
    obtain ⟨x0, x1, x2, hx⟩ := HSG.out k hlt
    have HYK := HY.out k hlt x0 x1 x2 hx
    have HN : (¬ (x0 = ep ∧ x1 = m ∧ (x < 0 ∨ x2 = x))) → Hid (∀ j, j < k + 1 → ¬ ((sg.getD j []).getD 0 0 = ep ∧ (sg.getD j []).getD 1 0 = m ∧ (x < 0 ∨ (sg.getD j []).getD 2 0 = x))) := fun hn j hj => by
      by_cases e : j = k
      · subst e; rw [hx]; exact hn
      · exact HA.out j (by omega)
    obtain ⟨b, o, ro, rc, rfl, r0, hro⟩ := HRV.out.get hkl
    rw [hx] at r0 hro
    simp only [List.length_cons, List.length_nil, Nat.zero_add, Nat.reduceAdd] at r0
    obtain ⟨gb, go, rfl, e0⟩ := hro.get (k := 0) (by simp)
    obtain ⟨gb', go', he, e1⟩ := hro.get (k := 1) (by simp)
    simp only [Option.some.injEq, Addr.mk.injEq] at he
    obtain ⟨rfl, rfl, _⟩ := he
    obtain ⟨gb', go', he, e2⟩ := hro.get (k := 2) (by simp)
    simp only [Option.some.injEq, Addr.mk.injEq] at he
    obtain ⟨rfl, rfl, _⟩ := he
    simp only [List.getD_cons_zero, List.getD_cons_succ, Nat.add_zero] at e0 e1 e2
    have k0 : (0 : Int) ≤ (k : Int) := by omega
    have k1 : (k : Int) < (sn : Int) := by omega
    clear hx hkl hro HA
    by_cases hq0 : x0 = ep
    case neg =>
      have hq0' : (x0 == ep) = false := by simpa using hq0
      have HN2 := HN (fun h => hq0 h.1)
      clear hq0 HN HYK
      go_wp2
      go_round
      case rel => exact ⟨k + 1, by omega, by go_num, HN2⟩
      case measure => simp [intOf]; omega
    have hq0' : (x0 == ep) = true := by simpa using hq0
    by_cases hq1 : x1 = m
    case neg =>
      have hq1' : (x1 == m) = false := by simpa using hq1
      have HN2 := HN (fun h => hq1 h.2.1)
      clear hq0 hq1 HN HYK
      go_wp2
      go_round
      case rel => exact ⟨k + 1, by omega, by go_num, HN2⟩
      case measure => simp [intOf]; omega
    have hq1' : (x1 == m) = true := by simpa using hq1
    by_cases hx0 : x < 0
    case pos =>
      have HZ : Hid (zb = true) := HYK hq0 hq1 (Or.inl hx0)
      clear hq0 hq1 HN HYK
      go_wp2
      go_ret
      exact ⟨ret_bool HZ.out.symm, HB0.out⟩
    by_cases hq2 : x2 = x
    case neg =>
      have hq2' : (x2 == x) = false := by simpa using hq2
      have HN2 := HN (fun h => h.2.2.elim hx0 hq2)
      clear hq0 hq1 hq2 HN HYK
      go_wp2
      go_round
      case rel => exact ⟨k + 1, by omega, by go_num, HN2⟩
      case measure => simp [intOf]; omega
    have hq2' : (x2 == x) = true := by simpa using hq2
    have HZ : Hid (zb = true) := HYK hq0 hq1 (Or.inr hq2)
    clear hq0 hq1 hq2 HN HYK
    go_wp2
    go_ret
    exact ⟨ret_bool HZ.out.symm, HB0.out⟩

end Go.Proofs.Ytaokmjbhgkfnfaa
