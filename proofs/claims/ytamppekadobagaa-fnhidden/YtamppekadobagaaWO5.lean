/- Chapter 5: WeightsOf, both sides. -/
import Derived.Test.YtamppekadobagaaWT5
namespace Go.Proofs.Ytamppekadobagaa
set_option linter.unusedVariables false
set_option linter.unusedSimpArgs false
open Go.RowKit

def weightsF (xs : List Int) : List Int × Bool := if placesB xs = true then (vIs (wts (xs.map toF) 0), true) else ([], false)
theorem weightsF_short {xs zs : List Int} {fb : Bool} (h : weightsF xs = (zs, fb)) : zs.length ≤ 8 := by
  unfold weightsF at h
  split at h
  · rename_i hc
    simp only [Prod.mk.injEq] at h
    obtain ⟨fs, rfl, _, _, _, h8⟩ := placesB_parts hc
    rw [← h.1, vIs_length, wts_length, List.length_map, vIs_length]; exact h8
  · simp only [Prod.mk.injEq] at h
    rw [← h.1]; simp
theorem vIs_toF' (ps : List F) : (vIs ps).map toF = ps := by
  unfold vIs
  rw [List.map_map]
  conv => rhs; rw [← List.map_id ps]
  exact List.map_congr_left fun a _ => toF_vI a

theorem specWeights_c (ao : Option Addr) (n c : Nat) (xs : List Int) (w : World) (hx : xs.length = n) (hn : n ≤ 17592186044416) (hcap : n ≤ c ∧ c ≤ maxLen) (hr : Rd w ao xs) (zs : List Int) (fb : Bool) (p : Nat) (hF : weightsF xs = (zs, fb)) (hp : zs.length = p) :
    Calls Try.prog 39 #[.slice ao n c] w fun e w' => ∃ a' c', e = .returned (.tuple #[.slice a' p c', .bool fb]) ∧ Own w' w.heap.size (.slice a' p c') zs ∧ Below w.heap.size w w' := by
  have q1 := l5Xs_c ao n c xs w hx hn hcap hr
  unfold weightsF at hF
  by_cases h : placesB xs = true
  · rw [if_pos h] at hF
    simp only [Prod.mk.injEq] at hF
    obtain ⟨rfl, rfl⟩ := hF
    rw [h] at q1
    obtain ⟨fs, rfl, hnd, _, h1, h8⟩ := placesB_parts h
    rw [vIs_toF'] at hp ⊢
    rw [vIs_length, wts_length] at hp
    rw [vIs_length] at hx
    obtain rfl : n = p := by omega
    have q2 := l5At_c ao n c fs 0 w hx (by omega) (by omega) hnd hr
    rw [vI_zero] at q2
    have HZ : Hid (vIs (wts fs 0) = vIs (wts fs 0)) := rfl
    clear h hr hcap
    go_enter Try.func39, Try.ntmps39
    go_wp2_with fail
    refine q1.mono ?_
    clear q1
    rintro e w' ⟨rfl, hw⟩
    subst w'
    go_wp2_with fail
    refine q2.mono ?_
    clear q2
    rintro e w1 ⟨a', c', rfl, ho, hb⟩
    have HO : Hid (Own w1 w.heap.size (.slice a' n c') (vIs (wts fs 0)) ∧ Below w.heap.size w w1) := ⟨ho, hb⟩
    clear ho hb
    go_wp2
    refine bodyPost_ret (v := .tuple #[.slice a' n c', .bool true]) (by simp [results, Try.results39, go_sem]; try rfl) rfl ?_
    exact ⟨a', c', rfl, HO.out.1, HO.out.2⟩
  · rw [if_neg h] at hF
    simp only [Prod.mk.injEq] at hF
    obtain ⟨rfl, rfl⟩ := hF
    have h' : placesB xs = false := by simpa using h
    rw [h'] at q1
    simp at hp
    subst hp
    clear h h' hr hcap
    go_enter Try.func39, Try.ntmps39
    go_wp2_with fail
    refine q1.mono ?_
    clear q1
    rintro e w' ⟨rfl, hw⟩
    subst w'
    go_wp2
    refine bodyPost_ret (v := .tuple #[.slice none 0 0, .bool false]) (by simp [results, Try.results39, go_sem]; try rfl) rfl ?_
    exact ⟨none, 0, rfl, World.ownsRow_nil _ _ _ _, Below.refl _ _⟩

set_option maxHeartbeats 1000000 in
theorem implWeights_yes (b o n c : Nat) (fs : List F) (w : World) (hx : fs.length = n) (h1 : 1 ≤ n) (h8 : n ≤ 8) (hpl : placesB (vIs fs) = true) (hcap : n ≤ c ∧ c ≤ maxLen)
    (hc : ∀ j, j < n → w.cell? ⟨b, o + j, none⟩ = some (.int .i64 (vI (fs.getD j 0)))) (hr : Rd w (some ⟨b, o, none⟩) (vIs fs)) :
    Calls Try.prog 38 #[.slice (some ⟨b, o, none⟩) n c] w fun e w' => ∃ a' c', e = .returned (.tuple #[.slice a' n c', .bool true]) ∧ Own w' w.heap.size (.slice a' n c') (vIs (wts fs 0)) ∧ Below w.heap.size w w' := by
  obtain ⟨i0, hi, hz0, hz1, hz2⟩ := info_parts Try.infoInt
  have q1 := arePlaces_c (some ⟨b, o, none⟩) n c (vIs fs) w (by rw [vIs_length]; exact hx) (by omega) hcap hr
  rw [hpl] at q1
  have HX : Hid (fs.length = n) := hx
  have HC : Hid (∀ j, j < n → w.cell? ⟨b, o + j, none⟩ = some (.int .i64 (vI (fs.getD j 0)))) := hc
  have HR : Hid (Rd w (some ⟨b, o, none⟩) (vIs fs)) := hr
  clear hx hc hr hpl hcap
  go_enter Try.func38, Try.ntmps38
  go_wp2_with fail
  refine q1.mono ?_
  clear q1
  rintro e w' ⟨rfl, hw⟩
  subst w'
  go_wp2_with fail
  refine (weightsAt_c 0 (some ⟨b, o, none⟩) n c w).mono ?_
  rintro e w' ⟨rfl, hw⟩
  obtain ⟨W, hW⟩ : ∃ W, (w.alloc (.cells #[.int .i64 0] 3)).alloc (.cells #[.slice (some ⟨b, o, none⟩) n c] 23) = W := ⟨_, rfl⟩
  rw [hW] at hw
  subst w'
  have HBW : Hid (Below w.heap.size w W) := by rw [← hW]; exact ((Below.refl _ w).alloc (Nat.le_refl _) _).alloc (by simp) _
  have HCW : Hid (W.cell? ⟨w.heap.size + 1, 0, none⟩ = some (.slice (some ⟨b, o, none⟩) n c) ∧ W.cell? ⟨w.heap.size, 0, none⟩ = some (.int .i64 (vI 0))) := by
    rw [← hW]
    refine ⟨?_, ?_⟩
    · simp
    · exact calloc (by simp [vI_zero])
  have hWs : w.heap.size ≤ W.heap.size := HBW.out.size
  clear hW
  go_wp2
  go_loopw [5, 15] (fun v i wr => ∃ k : Nat, k ≤ n ∧ i = .int .i64 k ∧ Hid (Own wr W.heap.size v (vIs ((wts fs 0).take k))) ∧ Hid (Below W.heap.size W wr)) (fun _ i _ => n - (intOf i).toNat)
  case atStart => exact ⟨0, Nat.zero_le _, rfl, World.ownsRow_nil _ _ _ _, Below.refl _ _⟩
  case round =>
    obtain ⟨k, hk, rfl, hO, hB⟩ := hrel
    by_cases hlt : k < n
    · have hbx := World.block_lt_of_cell? w _ (HC.out k hlt)
      have g1 : wr.cell? ⟨b, o + k, none⟩ = some (.int .i64 (vI (fs.getD k 0))) := by rw [hB.out.cell (p := ⟨b, o + k, none⟩) (Nat.lt_of_lt_of_le hbx hWs), HBW.out.cell (p := ⟨b, o + k, none⟩) hbx]; exact HC.out k hlt
      have HT : Hid (vIs ((wts fs 0).take (k + 1)) = vIs ((wts fs 0).take k) ++ [vI (wtF fs (fs.getD k 0) 0)]) := by show _ = _; rw [wts_take (by rw [HX.out]; exact hlt), vIs_app]
      have hlen : (vIs ((wts fs 0).take k)).length = k := by rw [vIs_length, List.length_take, wts_length, HX.out]; omega
      have hob : ∀ k', u5.ownBlock = some k' → W.heap.size ≤ k' := own_block_ge hO.out
      have hown : wr.ownsRow W.heap.size 3 1 u5 k (cellsI (vIs ((wts fs 0).take k))) := by have h := hO.out; unfold Own at h; rw [hlen] at h; exact h
      have HL : Hid ((vIs ((wts fs 0).take k)).length = k) := hlen
      have qw := weightsAt1_c (w.heap.size + 1) w.heap.size (some ⟨b, o, none⟩) n c fs (fs.getD k 0) 0 wr HX.out h1 (by omega) (cell_keep (S := 0) hB.out HCW.out.1) (cell_keep (S := 0) hB.out HCW.out.2) ((HR.out.later HBW.out).later hB.out)
      generalize vI (wtF fs (fs.getD k 0) 0) = x at *
      generalize vI (fs.getD k 0) = pl at *
      generalize vIs ((wts fs 0).take k) = out at *
      clear hlen hbx
      go_wp2_with fail
      refine qw.mono ?_
      clear qw
      rintro e w' ⟨rfl, hw⟩
      subst w'
      go_wp2_with (at_builtin; refine wpList_append_own _ rfl _ _ 23 rfl W.heap.size 3 i0 (.int .i64 0) 1 8 Try.underlying23 hi hz0 hz1 hz2 rfl (by decide) _ _ _ rfl (hown.alloc _) ⟨wr.heap.size, 0, none⟩ 1 1 [.int .i64 x] rfl rfl (cell_new1 _ _ _) (ints_oneCell .i64 [x]) (by unfold maxLen; omega) (by omega) (by have := hB.out.size; simp; omega) ?_; intro v' w2 hown' hgrow _; have HO' : Hid (Own w2 W.heap.size v' (out ++ [x])) := own_push (w := wr) (v := u5) (by simpa [HL.out] using hown'); have HB' : Hid (Below W.heap.size W w2) := (hB.out.alloc hB.out.size _).grown hgrow (by have := hB.out.size; simp; omega) (fun k' e => hob k' e); clear hown' hgrow)
      go_roundw
      case rel => exact ⟨k + 1, by omega, by go_num, by show Own _ _ _ _; rw [HT.out]; exact HO'.out, HB'⟩
      case measure => simp [intOf]; omega
    · have he : (wts fs 0).take k = wts fs 0 := List.take_of_length_le (by rw [wts_length, HX.out]; omega)
      rw [he] at hO
      obtain ⟨a', c', hv⟩ := hO.out.shape
      rw [vIs_length, wts_length, HX.out] at hv
      subst hv
      clear he
      go_wp2
      refine bodyPost_ret (v := .tuple #[.slice a' n c', .bool true]) (by simp [results, Try.results38, go_sem]; try rfl) rfl ?_
      exact ⟨a', c', rfl, hO.out.mono hWs, HBW.out.trans (hB.out.mono hWs)⟩

theorem implWeights_c (ao : Option Addr) (n c : Nat) (xs : List Int) (w : World) (hx : xs.length = n) (hn : n ≤ 17592186044416) (hcap : n ≤ c ∧ c ≤ maxLen) (hr : Rd w ao xs) (zs : List Int) (fb : Bool) (p : Nat) (hF : weightsF xs = (zs, fb)) (hp : zs.length = p) :
    Calls Try.prog 38 #[.slice ao n c] w fun e w' => ∃ a' c', e = .returned (.tuple #[.slice a' p c', .bool fb]) ∧ Own w' w.heap.size (.slice a' p c') zs ∧ Below w.heap.size w w' := by
  unfold weightsF at hF
  by_cases h : placesB xs = true
  · rw [if_pos h] at hF
    simp only [Prod.mk.injEq] at hF
    obtain ⟨rfl, rfl⟩ := hF
    obtain ⟨fs, rfl, hnd, _, h1, h8⟩ := placesB_parts h
    rw [vIs_toF'] at hp ⊢
    rw [vIs_length, wts_length] at hp
    rw [vIs_length] at hx
    obtain rfl : n = p := by omega
    obtain ⟨b, o, rfl, hc⟩ := RdF hr hx (by omega)
    exact implWeights_yes b o n c fs w hx (by omega) (by omega) h hcap hc hr
  · rw [if_neg h] at hF
    simp only [Prod.mk.injEq] at hF
    obtain ⟨rfl, rfl⟩ := hF
    have q1 := arePlaces_c ao n c xs w hx hn hcap hr
    have h' : placesB xs = false := by simpa using h
    rw [h'] at q1
    simp at hp
    subst hp
    clear h h' hr hcap
    go_enter Try.func38, Try.ntmps38
    go_wp2_with fail
    refine q1.mono ?_
    clear q1
    rintro e w' ⟨rfl, hw⟩
    subst w'
    go_wp2
    refine bodyPost_ret (v := .tuple #[.slice none 0 0, .bool false]) (by simp [results, Try.results38, go_sem]; try rfl) rfl ?_
    exact ⟨none, 0, rfl, World.ownsRow_nil _ _ _ _, Below.refl _ _⟩

end Go.Proofs.Ytamppekadobagaa
