/- Chapter 12: ClaimsIn of both sides. -/
import Derived.Test.YtleddlfojogdiaaGreatCM14
import Derived.Test.YtleddlfojogdiaaGreatKP14
import Derived.Test.YtleddlfojogdiaaGreatG12
import Derived.Test.YtleddlfojogdiaaGreatRG12
namespace Go.Proofs.YtleddlfojogdiaaGreat
set_option linter.unusedVariables false
set_option maxRecDepth 1000000
set_option linter.unusedSimpArgs false
open Go.RowKit Go.Lib

theorem kept_mem {ys : List Cl} : ∀ j, j < ys.length → ys.getD j (0, 0, 0) ∈ keptC ys := by
  intro j
  induction j with
  | zero =>
    intro h
    unfold keptC compactUpTo
    rw [List.mem_map]
    exact ⟨0, by rw [List.mem_filter]; exact ⟨by simpa using h, keeps_lt_one _ 0 (by omega)⟩, atC h⟩
  | succ j ih =>
    intro h
    by_cases e : ys.getD (j + 1) (0, 0, 0) = ys.getD j (0, 0, 0)
    · rw [e]; exact ih (by omega)
    · unfold keptC compactUpTo
      rw [List.mem_map]
      refine ⟨j + 1, ?_, atC h⟩
      rw [List.mem_filter]
      refine ⟨by simpa using h, keeps_pos ?_⟩
      rw [atC h, Nat.add_sub_cancel, atC (by omega)]
      exact e

theorem mem_kept {ys : List Cl} {x : Cl} (h : x ∈ keptC ys) : x ∈ ys := by
  unfold keptC compactUpTo at h
  rw [List.mem_map] at h
  obtain ⟨j, hj, rfl⟩ := h
  rw [List.mem_filter, List.mem_range] at hj
  rw [atC hj.1]
  exact mem_getD _ hj.1

theorem kept_ris {ys : List Cl} (hs : ∀ i j, i < j → j < ys.length → ltC (ys.getD j (0, 0, 0)) (ys.getD i (0, 0, 0)) = false) : RisC (keptC ys) := by
  unfold RisC keptC compactUpTo
  rw [List.pairwise_map]
  refine List.Pairwise.imp_of_mem (R := fun a b => a < b) ?_ (List.Pairwise.sublist List.filter_sublist (List.pairwise_lt_range))
  intro i j hi hj hij
  rw [List.mem_filter, List.mem_range] at hi hj
  rw [atC hi.1, atC hj.1]
  have hk := hj.2
  unfold keeps at hk
  rw [decide_eq_true_eq] at hk
  rcases hk with hk | hk
  · omega
  · rw [atC hj.1, atC (by omega)] at hk
    have h1 := ltC_total (hs (j - 1) j (by omega) hj.1) hk
    by_cases e : i = j - 1
    · rw [e]; exact h1
    · have h2 := hs i (j - 1) (by omega) (by omega)
      rw [Bool.eq_false_iff, Ne, ltC_iff] at h2
      rw [ltC_iff] at h1 ⊢
      omega

/-- What is told, sorted, each once: the claims of the statements. -/
theorem kept_claims {xs : List St} {ys : List Cl} (hp : ys.Perm (xs.map whatS)) (hs : ∀ i j, i < j → j < ys.length → ltC (ys.getD j (0, 0, 0)) (ys.getD i (0, 0, 0)) = false) : keptC ys = claimsL xs := by
  obtain ⟨h1, h2, _⟩ := claimsL_all xs
  refine risC_ext (kept_ris hs) h1 (fun x => ?_)
  rw [h2, ← hp.mem_iff]
  constructor
  · exact mem_kept
  · intro h
    obtain ⟨j, hj, rfl⟩ := List.getElem_of_mem h
    have := kept_mem j hj
    rw [List.getD, List.getElem?_eq_getElem hj, Option.getD_some] at this
    exact this

def claimsV (xs : List St) : List Cl := if stsB xs = true then claimsL xs else []

theorem claimsV_len (xs : List St) : (claimsV xs).length ≤ 60 := by
  unfold claimsV
  split
  · rename_i h
    unfold stsB at h
    rw [Bool.and_eq_true, decide_eq_true_eq] at h
    exact Nat.le_trans (claimsL_all xs).2.2 h.2
  · simp

theorem stsB_few {xs : List St} (h : stsB xs = true) : xs.length ≤ 60 := by
  unfold stsB at h
  rw [Bool.and_eq_true, decide_eq_true_eq] at h
  exact h.2

theorem compact_none (c : Nat) (w : World) : Calls Tryz.prog 75 #[.slice none 0 c] w fun e w' => e = .returned (.slice none 0 c) ∧ w' = w := by
  go_enter Tryz.func75, Tryz.ntmps75
  go_wp2
  go_ret
  exact ⟨rfl, rfl⟩

set_option maxHeartbeats 4000000 in
theorem implClaims_c (ao : Option Addr) (n c : Nat) (xs : List St) (w : World) (hx : xs.length = n) (hn : n ≤ 17592186044416) (hr : RdS w ao xs) (q : Nat) (hq : (claimsV xs).length = q) :
    Calls Tryz.prog 45 #[.slice ao n c] w fun e w' => ∃ a' c', e = .returned (.tuple #[.slice a' q c', .bool (stsB xs)]) ∧ OwnC w' w.heap.size (.slice a' q c') (claimsV xs) ∧ Below w.heap.size w w' := by
  have q1 := areStatements_c ao n c xs w hx hn hr
  cases h : stsB xs
  · have e2 : claimsV xs = [] := by unfold claimsV; rw [h]; rfl
    rw [e2] at hq ⊢
    obtain rfl : q = 0 := hq.symm
    rw [h] at q1
    clear h e2 hq hx hr
    go_enter Tryz.func45, Tryz.ntmps45
    go_wp2_with fail
    refine q1.mono ?_
    clear q1
    rintro e w' ⟨rfl, hb⟩
    go_wp2
    refine bodyPost_ret (v := .tuple #[.slice none 0 0, .bool false]) (by simp [results, Tryz.results45, go_sem]; try rfl) rfl ?_
    exact ⟨none, 0, rfl, own_nilC _ _, hb⟩
  · have e2 : claimsV xs = claimsL xs := by unfold claimsV; rw [if_pos h]
    have hn60 : n ≤ 60 := by rw [← hx]; exact stsB_few h
    have HE2 : Hid (claimsV xs = claimsL xs) := e2
    have HQ : Hid ((claimsL xs).length = q) := by show _ = _; rw [← e2]; exact hq
    obtain ⟨cl, hcl⟩ : ∃ cl, claimsV xs = cl := ⟨_, rfl⟩
    have HCL : Hid (claimsL xs = cl) := by show _ = _; rw [← e2]; exact hcl
    rw [hcl]
    rw [h] at q1
    have HR : Hid (RdS w ao xs) := hr
    have HX : Hid (xs.length = n) := hx
    clear h e2 hr hx hq hcl
    go_enter Tryz.func45, Tryz.ntmps45
    go_wp2_with fail
    refine q1.mono ?_
    clear q1
    rintro e w1 ⟨rfl, hb⟩
    have HB1 : Hid (Below w.heap.size w w1) := hb
    clear hb
    go_wp2_with fail
    refine (eachSC_c ao n c xs _ HX.out hn60 (HR.out.later HB1.out)).mono ?_
    rintro e w2 ⟨a2, c2, rfl, ho, hb⟩
    have HO2 : Hid (OwnC w2 w.heap.size (.slice a2 n c2) (xs.map whatS)) := ho.mono HB1.out.size
    have HB2 : Hid (Below w.heap.size w w2) := HB1.out.trans (hb.mono HB1.out.size)
    clear ho hb
    rcases OwnC.addr HO2.out with ⟨rfl, h0, rfl, h1⟩ | ⟨g, hga, hgb, hgw⟩
    · subst h0
      have hxn : xs = [] := by simpa using h1
      have hcl0 : cl = [] := by rw [← HCL.out, hxn]; rfl
      have hq0 : q = 0 := by have := HQ.out; rw [HCL.out, hcl0] at this; exact this.symm
      subst hq0 hcl0
      clear h1 hxn
      go_wp2_with fail
      refine (sortC_none 0 _).mono ?_
      rintro e w' ⟨rfl, hw⟩
      subst w'
      go_wp2_with fail
      refine (compact_none 0 _).mono ?_
      rintro e w' ⟨rfl, hw⟩
      subst w'
      go_wp2
      refine bodyPost_ret (v := .tuple #[.slice none 0 0, .bool true]) (by simp [results, Tryz.results45, go_sem]; try rfl) rfl ?_
      exact ⟨none, 0, rfl, own_nilC _ _, HB2.out⟩
    subst hga
    go_wp2_with fail
    refine (sortC_c g n c2 w.heap.size (xs.map whatS) _ hn60 (by rw [List.length_map]; exact HX.out) HO2.out).mono ?_
    rintro e w3 ⟨rfl, ys, hyp, hys, ho, hgr⟩
    have HYL : Hid (ys.length = n) := by show _ = _; rw [hyp.length_eq, List.length_map]; exact HX.out
    have HK : Hid (keptC ys = cl) := by show _ = _; rw [← HCL.out]; exact kept_claims hyp (fun i j hij hj => hys i j hij (by rw [HYL.out] at hj; exact hj))
    have HO3 : Hid (OwnC w3 w.heap.size (.slice (some ⟨g, 0, none⟩) n c2) ys) := ho
    have HB3 : Hid (Below w.heap.size w w3) := Below.grown HB2.out hgr HB2.out.size (fun k e => by have := Option.some.inj e; omega)
    clear ho hgr hys hyp HO2
    go_wp2_with fail
    refine (compactC_c g n c2 w.heap.size ys _ hn60 HYL.out HO3.out).mono ?_
    rintro e w4 ⟨m, rfl, ho, hgr⟩
    rw [HK.out] at ho
    have hm : m = q := by have h1 := ho.rd'.1; have h2 := HQ.out; rw [HCL.out] at h2; omega
    subst hm
    have HO4 : Hid (OwnC w4 w.heap.size (.slice (some ⟨g, 0, none⟩) m c2) cl) := ho
    have HB4 : Hid (Below w.heap.size w w4) := Below.grown HB3.out hgr HB3.out.size (fun k e => by have := Option.some.inj e; omega)
    clear ho hgr HO3
    go_wp2
    refine bodyPost_ret (v := .tuple #[.slice (some ⟨g, 0, none⟩) m c2, .bool true]) (by simp [results, Tryz.results45, go_sem]; try rfl) rfl ?_
    exact ⟨some ⟨g, 0, none⟩, c2, rfl, HO4.out, HB4.out⟩

end Go.Proofs.YtleddlfojogdiaaGreat
