/- Chapter 14: slices.Clone and eachOf at tallies; RankHands of both sides. -/
import Derived.Test.YtleddlfojogdiaaSR14
import Derived.Test.YtleddlfojogdiaaR14
namespace Go.Proofs.Ytleddlfojogdiaa
set_option linter.unusedVariables false
set_option maxRecDepth 1000000
set_option linter.unusedSimpArgs false
open Go.RowKit

theorem rankHands2_c (x0 x1 x2 : Int) (w : World) :
    Calls Try.prog 71 #[.agg #[.int .i64 x0, .int .i64 x1, .int .i64 x2]] w fun e w' => e = .returned (.int .i64 x0) ∧ Below w.heap.size w w' := by
  go_enter Try.func71, Try.ntmps71
  go_wp2
  go_ret
  exact ⟨rfl, balloc w _⟩

set_option maxHeartbeats 4000000 in
theorem eachUI_c (ao : Option Addr) (n c : Nat) (xs : List Ta) (w : World) (hx : xs.length = n) (hn : n ≤ 12) (hr : RdU w ao xs) :
    Calls Try.prog 70 #[.slice ao n c, .func (.func 71) #[] #[]] w fun e w' => ∃ a' c', e = .returned (.slice a' n c') ∧ Own w' w.heap.size (.slice a' n c') (xs.map (fun t => t.1)) ∧ Below w.heap.size w w' := by
  have HX : Hid (xs.length = n) := hx
  have HR : Hid (RdU w ao xs) := hr
  clear hx hr
  go_enter Try.func70, Try.ntmps70
  go_wp2
  go_loopw [5, 10] (fun v iv wr => ∃ j : Nat, j ≤ n ∧ iv = .int .i64 j ∧ Hid (Own wr w.heap.size v ((xs.take j).map (fun t => t.1))) ∧ Hid (Below w.heap.size w wr)) (fun _ iv _ => n - (intOf iv).toNat)
  case atStart => exact ⟨0, Nat.zero_le _, rfl, own_nilI _ _, Below.refl _ _⟩
  case round =>
    obtain ⟨j, hj, rfl, hO, hB⟩ := hrel
    by_cases hlt : j < n
    · have hjl : j < xs.length := by rw [HX.out]; exact hlt
      obtain ⟨b0, o0, rfl, g0, g1, g2⟩ := (HR.out.later hB.out).get hjl
      have HT := take_snocT (d := (0, 0, 0)) hjl
      generalize xs.getD j (0, 0, 0) = s at g0 g1 g2 HT
      obtain ⟨x0, x1, x2⟩ := s
      simp only at g0 g1 g2
      have HTk : Hid ((xs.take (j + 1)).map (fun t => t.1) = (xs.take j).map (fun t => t.1) ++ [x0]) := by show _ = _; rw [HT, List.map_append]; rfl
      have HL : Hid (((xs.take j).map (fun t => t.1)).length = j) := by show _ = _; rw [List.length_map, List.length_take, HX.out]; omega
      clear HT hjl
      generalize (xs.take j).map (fun t => t.1) = out at hO HTk HL
      have k0 : (0 : Int) ≤ (j : Int) := by omega
      have k1 : (j : Int) < (n : Int) := by omega
      obtain ⟨a', c', hv⟩ := hO.out.shape
      rw [HL.out] at hv
      subst hv
      have bX := balloc wr (.cells #[.int .i64 x0, .int .i64 x1, .int .i64 x2] 38)
      have cX := x3_new wr (.int .i64 x0) (.int .i64 x1) (.int .i64 x2) 38 wr.heap.size rfl
      have hO1 := hO.out.later bX
      have hB1 := hB.out.trans (bX.mono hB.out.size)
      obtain ⟨wy, hwy⟩ : ∃ V, wr.alloc (.cells #[.int .i64 x0, .int .i64 x1, .int .i64 x2] 38) = V := ⟨_, rfl⟩
      rw [hwy] at bX cX hO1 hB1
      have HO1 : Hid (Own wy w.heap.size (.slice a' j c') out) := hO1
      have HB1 : Hid (Below w.heap.size w wy) := hB1
      clear hO hB bX hO1 hB1
      obtain ⟨⟨d0, d1, d2⟩, _⟩ := cX
      go_wp2_with fail
      clear hwy d0 d1 d2
      refine (rankHands2_c x0 x1 x2 _).mono ?_
      rintro e w4 ⟨rfl, hb⟩
      have HO4 : Hid (Own w4 w.heap.size (.slice a' j c') out) := HO1.out.later hb
      have HB4 : Hid (Below w.heap.size w w4) := HB1.out.trans (hb.mono HB1.out.size)
      clear hb
      have bA := balloc w4 (.cells #[.int .i64 x0] 3)
      obtain ⟨v', w5, r1, o5, g5, b5⟩ := appendI_run (w4.alloc (.cells #[.int .i64 x0] 3)) w.heap.size (.slice a' j c') out [x0] (some ⟨w4.heap.size, 0, none⟩) 1 1 (HO4.out.later bA) (litI w4 _) rfl (fun h => by cases h) (by rw [HL.out]; omega) (by have := HB4.out.size; have := bA.size; omega)
      have HO5 : Hid (Own w5 w.heap.size v' (out ++ [x0])) := o5
      have HB5 : Hid (Below w.heap.size w w5) := (HB4.out.trans (bA.mono HB4.out.size)).trans b5
      clear bA o5 g5 b5
      go_wp2_with (at_builtin; refine Lib.wpList_append_run _ rfl _ _ _ _ rfl _ _ rfl rfl _ _ (r1 _) ?_; clear r1)
      go_roundw
      case rel => exact ⟨j + 1, by omega, by go_num, by show Own _ _ _ _; rw [HTk.out]; exact HO5.out, HB5⟩
      case measure => simp [intOf]; omega
    · obtain rfl : n = j := by omega
      have he : xs.take n = xs := List.take_of_length_le (by rw [HX.out]; exact Nat.le_refl _)
      rw [he] at hO
      have hx : ¬ (n : Int) < (n : Int) := by omega
      obtain ⟨a', c', hv⟩ := hO.out.shape
      rw [List.length_map, HX.out] at hv
      subst hv
      go_wp2
      go_ret
      exact ⟨a', c', rfl, hO.out, hB.out⟩

theorem cloneU_c (b o : Nat) (n c : Nat) (xs : List Ta) (w : World) (hx : xs.length = n) (hn : n ≤ 1000) (hr : RdU w (some ⟨b, o, none⟩) xs) :
    Calls Try.prog 65 #[.slice (some ⟨b, o, none⟩) n c] w fun e w' => ∃ a' c', e = .returned (.slice a' n c') ∧ OwnU w' w.heap.size (.slice a' n c') xs ∧ Below w.heap.size w w' := by
  have bE := balloc w (.cells #[] 38)
  have oE := emptyU w
  obtain ⟨E, hE⟩ : ∃ E, w.alloc (.cells #[] 38) = E := ⟨_, rfl⟩
  rw [hE] at bE oE
  obtain ⟨v, w1, r1, o1, g1, b1⟩ := appendU_run E w.heap.size _ [] xs (some ⟨b, o, none⟩) n c oE (hr.later bE) hx (fun h => by cases h) (by simp; omega) bE.size
  rw [List.nil_append] at o1
  have HO : Hid (OwnU w1 w.heap.size v xs) := o1
  have HB : Hid (Below w.heap.size w w1) := bE.trans b1
  obtain ⟨a', c', hv⟩ := HO.out.shape
  rw [hx] at hv
  subst hv
  have he : ∀ w : World, (binOp .eql 23 (.slice (some ⟨b, o, none⟩) n c) (.slice none 0 0)).run Try.prog w = .ok (.bool false) w := fun _ => rfl
  clear bE oE o1 g1 b1 hr hx
  go_enter Try.func65, Try.ntmps65
  go_wp2_with (at_builtin; refine Lib.wpList_append_run _ rfl _ _ _ _ rfl _ _ rfl rfl _ _ (r1 _) ?_; clear r1)
  go_ret
  exact ⟨a', c', rfl, HO.out, HB.out⟩

def rankV (xs : List Ta) : List Int := if tasB xs = true then rankL xs else []

theorem rankV_len (xs : List Ta) : (rankV xs).length ≤ 12 := by
  unfold rankV
  split
  · rename_i h
    rw [rankL_length]
    have := tasB_is h
    have := this.1
    unfold fewU at this
    rw [Bool.and_eq_true, decide_eq_true_eq] at this
    exact this.2
  · simp

theorem tasB_all {xs : List Ta} (h : tasB xs = true) : (∀ t ∈ xs, taB t = true) ∧ tasAt xs = true ∧ 1 ≤ xs.length ∧ xs.length ≤ 12 := by
  have h1 := tasB_is h
  have h2 := h1.1
  unfold fewU at h2
  rw [Bool.and_eq_true, decide_eq_true_eq, List.all_eq_true] at h2
  unfold tasB at h
  rw [Bool.and_eq_true] at h
  exact ⟨h2.1, h.1, h1.2.1, h2.2⟩

set_option maxHeartbeats 4000000 in
theorem implRank_c (ao : Option Addr) (n c : Nat) (xs : List Ta) (w : World) (hx : xs.length = n) (hn : n ≤ 17592186044416) (hr : RdU w ao xs) (q : Nat) (hq : (rankV xs).length = q) :
    Calls Try.prog 15 #[.slice ao n c] w fun e w' => ∃ a' c', e = .returned (.tuple #[.slice a' q c', .bool (tasB xs)]) ∧ Own w' w.heap.size (.slice a' q c') (rankV xs) ∧ Below w.heap.size w w' := by
  have q1 := implGoodT_c ao n c xs w hx hn hr
  cases h : tasB xs
  · have e2 : rankV xs = [] := by unfold rankV; rw [h]; rfl
    rw [e2] at hq ⊢
    obtain rfl : q = 0 := hq.symm
    rw [h] at q1
    clear h e2 hq hx hr
    go_enter Try.func15, Try.ntmps15
    go_wp2_with fail
    refine q1.mono ?_
    clear q1
    rintro e w' ⟨rfl, hb⟩
    go_wp2
    refine bodyPost_ret (v := .tuple #[.slice none 0 0, .bool false]) (by simp [results, Try.results15, go_sem]; try rfl) rfl ?_
    exact ⟨none, 0, rfl, own_nilI _ _, hb⟩
  · have e2 : rankV xs = rankL xs := by unfold rankV; rw [if_pos h]
    obtain ⟨ha, hg, hn1, hn2⟩ := tasB_all h
    rw [hx] at hn1 hn2
    rw [e2, rankL_length, hx] at hq
    subst hq
    rw [e2]
    rw [h] at q1
    have HR : Hid (RdU w ao xs) := hr
    have HX : Hid (xs.length = n) := hx
    have HA : Hid (∀ t ∈ xs, taB t = true) := ha
    have HG : Hid (tasAt xs = true) := hg
    clear h e2 hr hx ha hg
    obtain ⟨b, o, rfl, _⟩ := HR.out.get (k := 0) (by rw [HX.out]; omega)
    go_enter Try.func15, Try.ntmps15
    go_wp2_with fail
    refine q1.mono ?_
    clear q1
    rintro e w1 ⟨rfl, hb⟩
    have HB1 : Hid (Below w.heap.size w w1) := hb
    clear hb
    go_wp2_with fail
    refine (cloneU_c b o n c xs _ HX.out (by omega) (HR.out.later HB1.out)).mono ?_
    rintro e w2 ⟨a2, c2, rfl, ho, hb⟩
    have HO2 : Hid (OwnU w2 w.heap.size (.slice a2 n c2) xs) := ho.mono HB1.out.size
    have HB2 : Hid (Below w.heap.size w w2) := HB1.out.trans (hb.mono HB1.out.size)
    clear ho hb
    rcases OwnU.addr HO2.out with ⟨_, h0, _⟩ | ⟨g, hga, hgb, hgw⟩
    · omega
    subst hga
    go_wp2_with fail
    refine (sortStableU_c g n c2 w.heap.size xs _ hn2 HX.out HA.out HG.out HO2.out).mono ?_
    rintro e w3 ⟨rfl, ys, hys, hyl, ho, hgr⟩
    have HO3 : Hid (OwnU w3 w.heap.size (.slice (some ⟨g, 0, none⟩) n c2) ys) := ho
    have HB3 : Hid (Below w.heap.size w w3) := Below.grown HB2.out hgr HB2.out.size (fun k e => by have := Option.some.inj e; omega)
    have HY : Hid (ys.map (fun t => t.1) = rankL xs) := hys
    have HYL : Hid (ys.length = n) := hyl
    clear ho hgr hys hyl HO2
    go_wp2_with fail
    refine (eachUI_c (some ⟨g, 0, none⟩) n c2 ys _ HYL.out hn2 HO3.out.rd'.2).mono ?_
    rintro e w4 ⟨a4, c4, rfl, ho, hb⟩
    rw [HY.out] at ho
    have HO4 : Hid (Own w4 w.heap.size (.slice a4 n c4) (rankL xs)) := ho.mono HB3.out.size
    have HB4 : Hid (Below w.heap.size w w4) := HB3.out.trans (hb.mono HB3.out.size)
    clear ho hb
    go_wp2
    refine bodyPost_ret (v := .tuple #[.slice a4 n c4, .bool true]) (by simp [results, Try.results15, go_sem]; try rfl) rfl ?_
    exact ⟨a4, c4, rfl, HO4.out, HB4.out⟩

set_option maxHeartbeats 4000000 in
theorem specRank_c (ao : Option Addr) (n c : Nat) (xs : List Ta) (w : World) (hx : xs.length = n) (hn : n ≤ 17592186044416) (hr : RdU w ao xs) (q : Nat) (hq : (rankV xs).length = q) :
    Calls Try.prog 16 #[.slice ao n c] w fun e w' => ∃ a' c', e = .returned (.tuple #[.slice a' q c', .bool (tasB xs)]) ∧ Own w' w.heap.size (.slice a' q c') (rankV xs) ∧ Below w.heap.size w w' := by
  have q1 := specGoodT_c ao n c xs w hx hn hr
  cases h : tasB xs
  · have e2 : rankV xs = [] := by unfold rankV; rw [h]; rfl
    rw [e2] at hq ⊢
    obtain rfl : q = 0 := hq.symm
    rw [h] at q1
    clear h e2 hq hx hr
    go_enter Try.func16, Try.ntmps16
    go_wp2_with fail
    refine q1.mono ?_
    clear q1
    rintro e w' ⟨rfl, hb⟩
    go_wp2
    refine bodyPost_ret (v := .tuple #[.slice none 0 0, .bool false]) (by simp [results, Try.results16, go_sem]; try rfl) rfl ?_
    exact ⟨none, 0, rfl, own_nilI _ _, hb⟩
  · have e2 : rankV xs = rankL xs := by unfold rankV; rw [if_pos h]
    obtain ⟨ha, hg, hn1, hn2⟩ := tasB_all h
    rw [hx] at hn1 hn2
    rw [e2, rankL_length, hx] at hq
    subst hq
    rw [e2]
    rw [h] at q1
    have HR : Hid (RdU w ao xs) := hr
    have HX : Hid (xs.length = n) := hx
    have HG : Hid (tasAt xs = true) := hg
    clear h e2 hr hx ha hg
    go_enter Try.func16, Try.ntmps16
    go_wp2_with fail
    refine q1.mono ?_
    clear q1
    rintro e w1 ⟨rfl, hb⟩
    have HB1 : Hid (Below w.heap.size w w1) := hb
    clear hb
    go_wp2_with fail
    refine (l14Rank_c ao n c xs _ HX.out hn2 HG.out (HR.out.later HB1.out)).mono ?_
    rintro e w4 ⟨a4, c4, rfl, ho, hb⟩
    have HO4 : Hid (Own w4 w.heap.size (.slice a4 n c4) (rankL xs)) := ho.mono HB1.out.size
    have HB4 : Hid (Below w.heap.size w w4) := HB1.out.trans (hb.mono HB1.out.size)
    clear ho hb
    go_wp2
    refine bodyPost_ret (v := .tuple #[.slice a4 n c4, .bool true]) (by simp [results, Try.results16, go_sem]; try rfl) rfl ?_
    exact ⟨a4, c4, rfl, HO4.out, HB4.out⟩

end Go.Proofs.Ytleddlfojogdiaa
