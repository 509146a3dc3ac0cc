/- Chapter 15: GroupsOf of the program. -/
import Derived.Test.YtbjpkklonjlmiaaPT15
import Derived.Test.YtbjpkklonjlmiaaP15E
import Derived.Test.YtbjpkklonjlmiaaTS15
namespace Go.Proofs.Ytbjpkklonjlmiaa
set_option linter.unusedVariables false
set_option maxRecDepth 1000000
set_option linter.unusedSimpArgs false
open Go.RowKit Go.Sort

/-- The seats up to k that are told a number. -/
def gL (far : List Int) (k : Nat) : List Int := ((List.range k).filter fun i => decide (0 ≤ far.getD i 0)).map fun (i : Nat) => (i : Int)
theorem gL_succ (far : List Int) (k : Nat) : gL far (k + 1) = if 0 ≤ far.getD k 0 then gL far k ++ [(k : Int)] else gL far k := by
  unfold gL
  rw [List.range_succ, List.filter_append, List.map_append]
  have e : [k].filter (fun i => decide (0 ≤ far.getD i 0)) = if 0 ≤ far.getD k 0 then [k] else [] := by simp only [List.filter_cons, List.filter_nil, decide_eq_true_eq]
  rw [e]
  split
  · rfl
  · rw [List.map_nil, List.append_nil]
theorem gL_length (far : List Int) (k : Nat) : (gL far k).length ≤ k := by
  unfold gL
  rw [List.length_map]
  have := List.length_filter_le (fun i => decide (0 ≤ far.getD i 0)) (List.range k)
  rw [List.length_range] at this
  exact this
theorem grpL_gL (t : TbV) (n s : Nat) : grpL t n s = gL (farT t s) n := rfl

set_option maxHeartbeats 8000000 in
theorem groupAround_c (g0 n pn : Nat) (so : Option Addr) (m sc : Nat) (ys : List Stp) (w : World) (hg : g0 < n) (hn6 : n ≤ 6) (hm : ys.length = m) (hm30 : m ≤ 30) (hb : StB n pn ys) (hr : RdQ w so ys) :
    Calls Try.prog 54 #[.int .i64 g0, .int .i64 n, .slice so m sc] w fun e w' => ∃ a' c', e = .returned (.slice a' (gL (farL ys n g0) n).length c') ∧ Own w' w.heap.size (.slice a' (gL (farL ys n g0) n).length c') (gL (farL ys n g0) n) ∧ Below w.heap.size w w' := by
  have q := pairsTo_c g0 n pn so m sc ys w hg hn6 hm hm30 hb hr
  have HLO : Hid (∀ i, i < n → -1 ≤ (farL ys n g0).getD i 0) := (farN_ok hb hg n).lo
  have HFL : Hid ((farL ys n g0).length = n) := farL_length _ _ _
  generalize farL ys n g0 = far at q HLO HFL ⊢
  obtain ⟨G, hG⟩ : ∃ G, gL far n = G := ⟨_, rfl⟩
  have HG : Hid (gL far n = G) := hG
  rw [hG]
  clear hb hr hm hG
  go_enter Try.func54, Try.ntmps54
  go_wp2_with fail
  refine q.mono ?_
  clear q
  rintro e w1 ⟨g, rfl, ho, hb⟩
  have HB1 : Hid (Below w.heap.size w w1) := hb
  have HO1 : Hid (Own w1 w.heap.size (.slice (some ⟨g, 0, none⟩) n n) far) := ho
  clear ho hb
  go_wp2_with fail
  go_loopw [7, 15] (fun ov iv wr => ∃ (k q : Nat) (a' : Option Addr) (c' : Nat), k ≤ n ∧ iv = .int .i64 k ∧ ov = .slice a' q c' ∧ Hid ((gL far k).length = q) ∧ Hid (Own wr w1.heap.size (.slice a' q c') (gL far k)) ∧ Hid (Below w1.heap.size w1 wr)) (fun _ iv _ => n - (intOf iv).toNat)
  case atStart => exact ⟨0, 0, none, 0, Nat.zero_le _, rfl, rfl, rfl, World.ownsRow_nil _ _ _ _, Below.refl _ _⟩
  case round =>
    obtain ⟨k, q, a', c', hk, rfl, rfl, HQ, HO, HB⟩ := hrel
    by_cases hlt : k < n
    case neg =>
      have hkn := Nat.le_antisymm (Nat.not_lt.1 hlt) hk
      have HQ2 : Hid (G.length = q) := by rw [← HG.out, hkn]; exact HQ.out
      have HE : Hid (Own wr w.heap.size (.slice a' q c') G) := by rw [← HG.out, hkn]; exact HO.out.mono HB1.out.size
      have hge : ¬ (k : Int) < (n : Int) := by omega
      clear HO HQ hkn
      go_wp2
      go_ret
      exact ⟨a', c', by rw [HQ2.out]; rfl, by rw [HQ2.out]; exact HE.out, HB1.out.trans (HB.out.mono HB1.out.size)⟩
    have gs := cell_keep (S := 0) HB.out (Own.cell (g := g) (cap := n) (xs := far) (by rw [HFL.out]; exact HO1.out) k (by rw [HFL.out]; exact hlt))
    have hlo := HLO.out k hlt
    have HGS : Hid (gL far (k + 1) = if 0 ≤ far.getD k 0 then gL far k ++ [(k : Int)] else gL far k) := gL_succ far k
    have hql : q ≤ k := by have := gL_length far k; have := HQ.out; omega
    generalize far.getD k 0 = v at gs hlo HGS
    have k0 : (0 : Int) ≤ (k : Int) := by omega
    have k1 : (k : Int) < (n : Int) := by omega
    by_cases hv : v = -1
    · have hne : (v != (-1 : Int)) = false := by rw [hv]; rfl
      have HO2 : Hid (Own wr w1.heap.size (.slice a' q c') (gL far (k + 1))) := by show Own _ _ _ _; rw [HGS.out, if_neg (by omega)]; exact HO.out
      have HQ2 : Hid ((gL far (k + 1)).length = q) := by show _ = _; rw [HGS.out, if_neg (by omega)]; exact HQ.out
      clear hv HO HQ HGS hlo
      go_wp2
      go_roundw
      case rel => exact ⟨k + 1, q, a', c', by omega, by go_num, rfl, HQ2, HO2, HB⟩
      case measure => simp [intOf]; omega
    · have hne : (v != (-1 : Int)) = true := by rw [bne_iff_ne]; exact hv
      have hlit := litI wr (k : Int)
      have hbl := balloc wr (.cells #[.int .i64 k] 3)
      obtain ⟨U, hU⟩ : ∃ X, wr.alloc (.cells #[.int .i64 k] 3) = X := ⟨_, rfl⟩
      rw [hU] at hlit hbl
      obtain ⟨v', w3, r1, o1, gg, b1⟩ := appendI_run U w1.heap.size (.slice a' q c') (gL far k) [(k : Int)] (some ⟨wr.heap.size, 0, none⟩) 1 1 (HO.out.later hbl) hlit rfl (by intro h; cases h) (by rw [HQ.out]; simp; omega) (by have := hbl.size; have := HB.out.size; omega)
      obtain ⟨a3, c3, hv3⟩ := o1.shape
      rw [List.length_append, HQ.out] at hv3
      simp only [List.length_cons, List.length_nil, Nat.zero_add] at hv3
      subst hv3
      have HO3 : Hid (Own w3 w1.heap.size (.slice a3 (q + 1) c3) (gL far (k + 1))) := by show Own _ _ _ _; rw [HGS.out, if_pos (by omega)]; exact o1
      have HQ3 : Hid ((gL far (k + 1)).length = q + 1) := by show _ = _; rw [HGS.out, if_pos (by omega), List.length_append, HQ.out]; rfl
      have HB3 : Hid (Below w1.heap.size w1 w3) := (HB.out.trans (hbl.mono HB.out.size)).trans b1
      clear o1 gg b1 hbl hlit HO HB HQ HGS hv hlo
      go_wp2_with (first | (at_builtin; refine Lib.wpList_append_run _ rfl _ _ _ _ rfl _ _ rfl rfl _ _ (r1 _) ?_; clear r1))
      go_roundw
      case rel => exact ⟨k + 1, q + 1, a3, c3, by omega, by go_num, rfl, HQ3, HO3, HB3⟩
      case measure => simp [intOf]; omega


end Go.Proofs.Ytbjpkklonjlmiaa
