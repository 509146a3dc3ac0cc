/- Chapter 12: MergeStatements of both sides. -/
import Derived.Test.YtleddlfojogdiaaG12
import Derived.Test.YtleddlfojogdiaaAP12
import Derived.Test.YtleddlfojogdiaaIX12
namespace Go.Proofs.Ytleddlfojogdiaa
set_option linter.unusedVariables false
set_option maxRecDepth 1000000
set_option linter.unusedSimpArgs false
open Go.RowKit

theorem putS_in {a : List St} {s : St} (h : s ∈ a) : putS a s = a := by unfold putS; rw [if_pos h]

theorem putS_new {a : List St} {s : St} (h : s ∉ a) : putS a s = a ++ [s] := by unfold putS; rw [if_neg h]

theorem stsB_len {l : List St} (h : stsB l = true) : l.length ≤ 60 := by unfold stsB at h; rw [Bool.and_eq_true] at h; exact of_decide_eq_true h.2

theorem RdS.none {w : World} {xs : List St} (h : RdS w none xs) : xs = [] := by
  rcases h with h | ⟨b, o, he, _⟩
  · exact h
  · cases he

theorem own_emptyS (w : World) : OwnS (w.alloc (.cells #[] 82)) w.heap.size (.slice (some ⟨w.heap.size, 0, none⟩) 0 0) [] :=
  ⟨rfl, Or.inr ⟨w.heap.size, 0, #[], rfl, Nat.le_refl _, (by show (w.heap.push _)[w.heap.size]? = _; simp), Nat.le_refl _, Nat.zero_le _, rfl, rfl⟩⟩

theorem mergeL_nil (a : List St) : mergeL a [] = a := rfl

set_option maxHeartbeats 4000000 in
theorem implMerge_no (ao : Option Addr) (n c : Nat) (bo : Option Addr) (m d : Nat) (xs ys : List St) (w : World) (hx : xs.length = n) (hy : ys.length = m) (hn : n ≤ 17592186044416) (hm : m ≤ 17592186044416) (hr : RdS w ao xs) (hs : RdS w bo ys) (h : ¬ (stsB xs = true ∧ stsB ys = true)) :
    Calls Try.prog 50 #[.slice ao n c, .slice bo m d] w fun e w' => ∃ a' c', e = .returned (.tuple #[.slice a' 0 c', .bool false]) ∧ OwnS w' w.heap.size (.slice a' 0 c') [] ∧ Below w.heap.size w w' := by
  have HQ1 : Hid (∀ wx, RdS wx ao xs → Calls Try.prog 88 #[.slice ao n c] wx fun e w' => e = .returned (.bool (stsB xs)) ∧ Below wx.heap.size wx w') := fun wx h => areStatements_c ao n c xs wx hx hn h
  have HQ2 : Hid (∀ wx, RdS wx bo ys → Calls Try.prog 88 #[.slice bo m d] wx fun e w' => e = .returned (.bool (stsB ys)) ∧ Below wx.heap.size wx w') := fun wx h => areStatements_c bo m d ys wx hy hm h
  have HR : Hid (RdS w ao xs) := hr
  have HS : Hid (RdS w bo ys) := hs
  generalize stsB xs = x at HQ1 h
  generalize stsB ys = y at HQ2 h
  clear hr hs hx hy
  cases x
  · go_enter Try.func50, Try.ntmps50
    go_wp2_with fail
    refine (HQ1.out _ HR.out).mono ?_
    rintro e w1 ⟨rfl, hb⟩
    go_wp2
    refine bodyPost_ret (v := .tuple #[.slice none 0 0, .bool false]) (by simp [results, Try.results50, go_sem]; try rfl) rfl ?_
    exact ⟨none, 0, rfl, own_nilS _ _, hb⟩
  · cases y
    · go_enter Try.func50, Try.ntmps50
      go_wp2_with fail
      refine (HQ1.out _ HR.out).mono ?_
      rintro e w1 ⟨rfl, hb⟩
      go_wp2_with fail
      refine (HQ2.out _ (HS.out.later hb)).mono ?_
      rintro e w2 ⟨rfl, hb2⟩
      have HB : Hid (Below w.heap.size w w2) := hb.trans (hb2.mono hb.size)
      clear hb hb2
      go_wp2
      refine bodyPost_ret (v := .tuple #[.slice none 0 0, .bool false]) (by simp [results, Try.results50, go_sem]; try rfl) rfl ?_
      exact ⟨none, 0, rfl, own_nilS _ _, HB.out⟩
    · exact absurd ⟨rfl, rfl⟩ h

set_option maxHeartbeats 8000000 in
theorem implMerge_go (ao : Option Addr) (n c : Nat) (bo : Option Addr) (m d : Nat) (xs ys : List St) (w : World) (hx : xs.length = n) (hy : ys.length = m) (hn : n ≤ 60) (hm : m ≤ 60) (hr : RdS w ao xs) (hs : RdS w bo ys) (hxs : stsB xs = true) (hys : stsB ys = true) (hnil : ao = none → n = 0 ∧ c = 0) :
    Calls Try.prog 50 #[.slice ao n c, .slice bo m d] w fun e w' => ∃ a' p c', e = .returned (.tuple #[.slice a' p c', .bool (decide ((mergeL xs ys).length ≤ 60))]) ∧ OwnS w' w.heap.size (.slice a' p c') (if (mergeL xs ys).length ≤ 60 then mergeL xs ys else []) ∧ Below w.heap.size w w' := by
  have HQ1 : Hid (∀ wx, RdS wx ao xs → Calls Try.prog 88 #[.slice ao n c] wx fun e w' => e = .returned (.bool true) ∧ Below wx.heap.size wx w') := fun wx h => by have := areStatements_c ao n c xs wx hx (by omega) h; rw [hxs] at this; exact this
  have HQ2 : Hid (∀ wx, RdS wx bo ys → Calls Try.prog 88 #[.slice bo m d] wx fun e w' => e = .returned (.bool true) ∧ Below wx.heap.size wx w') := fun wx h => by have := areStatements_c bo m d ys wx hy (by omega) h; rw [hys] at this; exact this
  have HX : Hid (xs.length = n) := hx
  have HY : Hid (ys.length = m) := hy
  have HR : Hid (RdS w ao xs) := hr
  have HS : Hid (RdS w bo ys) := hs
  obtain ⟨res, hres⟩ : ∃ res, mergeL xs ys = res := ⟨_, rfl⟩
  have HE : Hid (mergeL xs (ys.take m) = res) := by show _ = _; rw [List.take_of_length_le (by omega), hres]
  rw [hres]
  have HYe : Hid (res.length ≤ 60 → decide (res.length ≤ 60) = true ∧ (if res.length ≤ 60 then res else []) = res) := fun h => ⟨decide_eq_true h, if_pos h⟩
  have HNo : Hid (¬ res.length ≤ 60 → decide (res.length ≤ 60) = false ∧ (if res.length ≤ 60 then res else []) = []) := fun h => ⟨decide_eq_false h, if_neg h⟩
  generalize decide (res.length ≤ 60) = zb at HYe HNo ⊢
  generalize (if res.length ≤ 60 then res else []) = zl at HYe HNo ⊢
  clear hres
  have HLe : Hid (∀ j, (mergeL xs (ys.take j)).length ≤ 120) := fun j => by
    have h1 := mergeL_length xs (ys.take j)
    have h2 : (ys.take j).length ≤ m := by rw [List.length_take, hy]; omega
    omega
  clear hr hs hx hy hxs hys
  go_enter Try.func50, Try.ntmps50
  go_wp2_with fail
  refine (HQ1.out _ HR.out).mono ?_
  rintro e w1 ⟨rfl, hb⟩
  go_wp2_with fail
  refine (HQ2.out _ (HS.out.later hb)).mono ?_
  rintro e w2 ⟨rfl, hb2⟩
  have HB0 : Hid (Below w.heap.size w w2) := hb.trans (hb2.mono hb.size)
  clear hb hb2 HQ1 HQ2
  obtain ⟨v0, w3, r1, o3, g3, b3⟩ := appendS_run w2 w2.heap.size (.slice none 0 0) [] xs ao n c (own_nilS _ _) (HR.out.later HB0.out) HX.out hnil (by simp; omega) (Nat.le_refl _)
  have HB3 : Hid (Below w2.heap.size w2 w3) := b3
  rw [List.nil_append] at o3
  have HO3 : Hid (OwnS w3 w2.heap.size v0 xs) := o3
  clear o3 g3 b3
  go_wp2_with (at_builtin; refine Lib.wpList_append_run _ rfl _ _ _ _ rfl _ _ rfl rfl _ _ (r1 _) ?_; clear r1)
  go_loopw [6, 21] (fun v iv wr => ∃ j : Nat, j ≤ m ∧ iv = .int .i64 j ∧ Hid (OwnS wr w2.heap.size v (mergeL xs (ys.take j))) ∧ Hid (Below w2.heap.size w2 wr)) (fun _ iv _ => m - (intOf iv).toNat)
  case atStart => exact ⟨0, Nat.zero_le _, rfl, HO3, HB3⟩
  case round =>
    clear HO3 HB3
    obtain ⟨j, hj, rfl, hO, hB⟩ := hrel
    by_cases hlt : j < m
    · have hjl : j < ys.length := by rw [HY.out]; exact hlt
      obtain ⟨b, o, rfl, g0, g1, g2, g3, g4⟩ := ((HS.out.later HB0.out).later hB.out).get hjl
      have HT := mergeL_succ (a := xs) hjl
      have hL := HLe.out j
      generalize mergeL xs (ys.take j) = out at hO HT hL
      generalize ys.getD j (0, 0, 0, 0, false) = s at g0 g1 g2 g3 g4 HT
      obtain ⟨x0, x1, x2, x3, x4⟩ := s
      simp only at g0 g1 g2 g3 g4
      have k0 : (0 : Int) ≤ (j : Int) := by omega
      have k1 : (j : Int) < (m : Int) := by omega
      obtain ⟨a', c', hv⟩ := hO.out.shape
      obtain ⟨p, hp⟩ : ∃ p, out.length = p := ⟨_, rfl⟩
      rw [hp] at hv
      subst hv
      have HOP : Hid (out.length = p) := hp
      rw [hp] at hL
      have bX := balloc wr (.cells #[.int .i64 x0, .int .i64 x1, .int .i64 x2, .int .i64 x3, .bool x4] 82)
      have cX := x5_new wr (.int .i64 x0) (.int .i64 x1) (.int .i64 x2) (.int .i64 x3) (.bool x4) 82 wr.heap.size rfl
      have hO1 := hO.out.later bX
      have hB1 := hB.out.trans (bX.mono hB.out.size)
      obtain ⟨wy, hwy⟩ : ∃ V, wr.alloc (.cells #[.int .i64 x0, .int .i64 x1, .int .i64 x2, .int .i64 x3, .bool x4] 82) = V := ⟨_, rfl⟩
      rw [hwy] at bX cX hO1 hB1
      have HO1 : Hid (OwnS wy w2.heap.size (.slice a' p c') out) := hO1
      have HB1 : Hid (Below w2.heap.size w2 wy) := hB1
      have HC1 : Hid (X5 wy wr.heap.size (.int .i64 x0) (.int .i64 x1) (.int .i64 x2) (.int .i64 x3) (.bool x4)) := cX
      clear hO hB bX hO1 hB1 hjl hp
      obtain ⟨⟨d0, d1, d2, d3, d4⟩, df⟩ := cX
      clear df
      have q := containsSt_c a' p c' out x0 x1 x2 x3 x4 wy HOP.out (by omega) HO1.out.rd'.2
      by_cases hin : (x0, x1, x2, x3, x4) ∈ out
      · rw [decide_eq_true hin] at q
        rw [putS_in hin] at HT
        have HT2 : Hid (mergeL xs (ys.take (j + 1)) = out) := HT
        clear HT hin
        go_wp2_with fail
        clear hwy d0 d1 d2 d3 d4
        refine q.mono ?_
        clear q
        rintro e w4 ⟨rfl, hb⟩
        have HO4 : Hid (OwnS w4 w2.heap.size (.slice a' p c') out) := HO1.out.later hb
        have HB4 : Hid (Below w2.heap.size w2 w4) := HB1.out.trans (hb.mono HB1.out.size)
        clear hb
        go_wp2
        go_roundw
        case rel => exact ⟨j + 1, by omega, by go_num, by show OwnS _ _ _ _; rw [HT2.out]; exact HO4.out, HB4⟩
        case measure => simp [intOf]; omega
      · rw [decide_eq_false hin] at q
        rw [putS_new hin] at HT
        have HT : Hid (mergeL xs (ys.take (j + 1)) = out ++ [(x0, x1, x2, x3, x4)]) := HT
        clear hin
        go_wp2_with fail
        clear hwy d0 d1 d2 d3 d4
        refine q.mono ?_
        clear q
        rintro e w4 ⟨rfl, hb⟩
        have HO4 : Hid (OwnS w4 w2.heap.size (.slice a' p c') out) := HO1.out.later hb
        have HB4 : Hid (Below w2.heap.size w2 w4) := HB1.out.trans (hb.mono HB1.out.size)
        have HC4 : Hid (X5 w4 wr.heap.size (.int .i64 x0) (.int .i64 x1) (.int .i64 x2) (.int .i64 x3) (.bool x4)) := HC1.out.later hb
        clear hb
        have cY := HC4.out
        obtain ⟨⟨f0, f1, f2, f3, f4⟩, df⟩ := cY
        clear df
        have bA := balloc w4 (.cells #[.int .i64 x0, .int .i64 x1, .int .i64 x2, .int .i64 x3, .bool x4] 82)
        obtain ⟨v', w5, r1, o5, g5, b5⟩ := appendS_run (w4.alloc (.cells #[.int .i64 x0, .int .i64 x1, .int .i64 x2, .int .i64 x3, .bool x4] 82)) w2.heap.size (.slice a' p c') out [(x0, x1, x2, x3, x4)] (some ⟨w4.heap.size, 0, none⟩) 1 1 (HO4.out.later bA) (litS w4 _ _ _ _ _) rfl (fun e => by cases e) (by rw [HOP.out]; omega) (Nat.le_trans HB4.out.size bA.size)
        have HO5 : Hid (OwnS w5 w2.heap.size v' (out ++ [(x0, x1, x2, x3, x4)])) := o5
        have HB5 : Hid (Below w2.heap.size w2 w5) := (HB4.out.trans (bA.mono HB4.out.size)).trans b5
        clear bA o5 g5 b5
        go_wp2_with (at_builtin; refine Lib.wpList_append_run _ rfl _ _ _ _ rfl _ _ rfl rfl _ _ (r1 _) ?_; clear r1)
        go_roundw
        case rel => exact ⟨j + 1, by omega, by go_num, by show OwnS _ _ _ _; rw [HT.out]; exact HO5.out, HB5⟩
        case measure => simp [intOf]; omega
    · obtain rfl : j = m := by omega
      have hO' := hO.out
      rw [HE.out] at hO'
      have hLm := HLe.out j
      rw [HE.out] at hLm
      clear hO HE HLe
      obtain ⟨a', c', hv⟩ := hO'.shape
      obtain ⟨p, hp⟩ : ∃ p, res.length = p := ⟨_, rfl⟩
      rw [hp] at hv hLm
      subst hv
      have HO1 : Hid (OwnS wr w2.heap.size (.slice a' p c') res) := hO'
      have HP : Hid (res.length = p) := hp
      clear hO' hp
      by_cases h60 : p ≤ 60
      · have h61 : ¬ (60 : Int) < (p : Int) := by omega
        have hz := HYe.out (by rw [HP.out]; exact h60)
        have HZ : Hid (zb = true ∧ zl = res) := hz
        clear hz
        go_wp2
        refine bodyPost_ret (v := .tuple #[.slice a' p c', .bool true]) (by simp [results, Try.results50, go_sem]; try rfl) rfl ?_
        exact ⟨a', p, c', by rw [HZ.out.1], by rw [HZ.out.2]; exact HO1.out.mono HB0.out.size, HB0.out.trans (hB.out.mono HB0.out.size)⟩
      · have h61 : (60 : Int) < (p : Int) := by omega
        have hz := HNo.out (by rw [HP.out]; exact h60)
        have HZ : Hid (zb = false ∧ zl = []) := hz
        clear hz
        go_wp2
        refine bodyPost_ret (v := .tuple #[.slice none 0 0, .bool false]) (by simp [results, Try.results50, go_sem]; try rfl) rfl ?_
        exact ⟨none, 0, 0, by rw [HZ.out.1], by rw [HZ.out.2]; exact own_nilS _ _, HB0.out.trans (hB.out.mono HB0.out.size)⟩

set_option maxHeartbeats 4000000 in
theorem specMerge_no (ao : Option Addr) (n c : Nat) (bo : Option Addr) (m d : Nat) (xs ys : List St) (w : World) (hx : xs.length = n) (hy : ys.length = m) (hn : n ≤ 17592186044416) (hm : m ≤ 17592186044416) (hr : RdS w ao xs) (hs : RdS w bo ys) (h : ¬ (stsB xs = true ∧ stsB ys = true)) :
    Calls Try.prog 51 #[.slice ao n c, .slice bo m d] w fun e w' => ∃ a' c', e = .returned (.tuple #[.slice a' 0 c', .bool false]) ∧ OwnS w' w.heap.size (.slice a' 0 c') [] ∧ Below w.heap.size w w' := by
  have HQ1 : Hid (∀ wx, RdS wx ao xs → Calls Try.prog 80 #[.slice ao n c] wx fun e w' => e = .returned (.bool (stsB xs)) ∧ Below wx.heap.size wx w') := fun wx h => l12Good_c ao n c xs wx hx hn h
  have HQ2 : Hid (∀ wx, RdS wx bo ys → Calls Try.prog 80 #[.slice bo m d] wx fun e w' => e = .returned (.bool (stsB ys)) ∧ Below wx.heap.size wx w') := fun wx h => l12Good_c bo m d ys wx hy hm h
  have HR : Hid (RdS w ao xs) := hr
  have HS : Hid (RdS w bo ys) := hs
  generalize stsB xs = x at HQ1 h
  generalize stsB ys = y at HQ2 h
  clear hr hs hx hy
  cases x
  · go_enter Try.func51, Try.ntmps51
    go_wp2_with fail
    refine (HQ1.out _ HR.out).mono ?_
    rintro e w1 ⟨rfl, hb⟩
    go_wp2
    refine bodyPost_ret (v := .tuple #[.slice none 0 0, .bool false]) (by simp [results, Try.results51, go_sem]; try rfl) rfl ?_
    exact ⟨none, 0, rfl, own_nilS _ _, hb⟩
  · cases y
    · go_enter Try.func51, Try.ntmps51
      go_wp2_with fail
      refine (HQ1.out _ HR.out).mono ?_
      rintro e w1 ⟨rfl, hb⟩
      go_wp2_with fail
      refine (HQ2.out _ (HS.out.later hb)).mono ?_
      rintro e w2 ⟨rfl, hb2⟩
      have HB : Hid (Below w.heap.size w w2) := hb.trans (hb2.mono hb.size)
      clear hb hb2
      go_wp2
      refine bodyPost_ret (v := .tuple #[.slice none 0 0, .bool false]) (by simp [results, Try.results51, go_sem]; try rfl) rfl ?_
      exact ⟨none, 0, rfl, own_nilS _ _, HB.out⟩
    · exact absurd ⟨rfl, rfl⟩ h

set_option maxHeartbeats 8000000 in
theorem specMerge_go (ao : Option Addr) (n c : Nat) (bo : Option Addr) (m d : Nat) (xs ys : List St) (w : World) (hx : xs.length = n) (hy : ys.length = m) (hn : n ≤ 60) (hm : m ≤ 60) (hr : RdS w ao xs) (hs : RdS w bo ys) (hxs : stsB xs = true) (hys : stsB ys = true) (hnil : ao = none → n = 0 ∧ c = 0) :
    Calls Try.prog 51 #[.slice ao n c, .slice bo m d] w fun e w' => ∃ a' p c', e = .returned (.tuple #[.slice a' p c', .bool (decide ((mergeL xs ys).length ≤ 60))]) ∧ OwnS w' w.heap.size (.slice a' p c') (if (mergeL xs ys).length ≤ 60 then mergeL xs ys else []) ∧ Below w.heap.size w w' := by
  have HQ1 : Hid (∀ wx, RdS wx ao xs → Calls Try.prog 80 #[.slice ao n c] wx fun e w' => e = .returned (.bool true) ∧ Below wx.heap.size wx w') := fun wx h => by have := l12Good_c ao n c xs wx hx (by omega) h; rw [hxs] at this; exact this
  have HQ2 : Hid (∀ wx, RdS wx bo ys → Calls Try.prog 80 #[.slice bo m d] wx fun e w' => e = .returned (.bool true) ∧ Below wx.heap.size wx w') := fun wx h => by have := l12Good_c bo m d ys wx hy (by omega) h; rw [hys] at this; exact this
  have HX : Hid (xs.length = n) := hx
  have HY : Hid (ys.length = m) := hy
  have HR : Hid (RdS w ao xs) := hr
  have HS : Hid (RdS w bo ys) := hs
  obtain ⟨res, hres⟩ : ∃ res, mergeL xs ys = res := ⟨_, rfl⟩
  have HE : Hid (mergeL xs (ys.take m) = res) := by show _ = _; rw [List.take_of_length_le (by omega), hres]
  rw [hres]
  have HYe : Hid (res.length ≤ 60 → decide (res.length ≤ 60) = true ∧ (if res.length ≤ 60 then res else []) = res) := fun h => ⟨decide_eq_true h, if_pos h⟩
  have HNo : Hid (¬ res.length ≤ 60 → decide (res.length ≤ 60) = false ∧ (if res.length ≤ 60 then res else []) = []) := fun h => ⟨decide_eq_false h, if_neg h⟩
  generalize decide (res.length ≤ 60) = zb at HYe HNo ⊢
  generalize (if res.length ≤ 60 then res else []) = zl at HYe HNo ⊢
  clear hres
  have HLe : Hid (∀ j, (mergeL xs (ys.take j)).length ≤ 120) := fun j => by
    have h1 := mergeL_length xs (ys.take j)
    have h2 : (ys.take j).length ≤ m := by rw [List.length_take, hy]; omega
    omega
  clear hr hs hx hy hxs hys
  go_enter Try.func51, Try.ntmps51
  go_wp2_with fail
  refine (HQ1.out _ HR.out).mono ?_
  rintro e w1 ⟨rfl, hb⟩
  go_wp2_with fail
  refine (HQ2.out _ (HS.out.later hb)).mono ?_
  rintro e w2 ⟨rfl, hb2⟩
  have HB0 : Hid (Below w.heap.size w w2) := hb.trans (hb2.mono hb.size)
  clear hb hb2 HQ1 HQ2
  have bE := balloc w2 (.cells #[] 82)
  have hE : OwnS (w2.alloc (.cells #[] 82)) w2.heap.size (.slice (some ⟨w2.heap.size, 0, none⟩) 0 0) [] := own_emptyS w2
  obtain ⟨v0, w3, r1, o3, g3, b3⟩ := appendS_run (w2.alloc (.cells #[] 82)) w2.heap.size (.slice (some ⟨w2.heap.size, 0, none⟩) 0 0) [] xs ao n c hE ((HR.out.later HB0.out).later bE) HX.out hnil (by simp; omega) bE.size
  have HB3 : Hid (Below w2.heap.size w2 w3) := bE.trans b3
  rw [List.nil_append] at o3
  have HO3 : Hid (OwnS w3 w2.heap.size v0 xs) := o3
  clear o3 g3 b3 bE hE
  go_wp2_with (at_builtin; refine Lib.wpList_append_run _ rfl _ _ _ _ rfl _ _ rfl rfl _ _ (r1 _) ?_; clear r1)
  go_loopw [6, 25] (fun v iv wr => ∃ j : Nat, j ≤ m ∧ iv = .int .i64 j ∧ Hid (OwnS wr w2.heap.size v (mergeL xs (ys.take j))) ∧ Hid (Below w2.heap.size w2 wr)) (fun _ iv _ => m - (intOf iv).toNat)
  case atStart => exact ⟨0, Nat.zero_le _, rfl, HO3, HB3⟩
  case round =>
    clear HO3 HB3
    obtain ⟨j, hj, rfl, hO, hB⟩ := hrel
    by_cases hlt : j < m
    · have hjl : j < ys.length := by rw [HY.out]; exact hlt
      obtain ⟨b, o, rfl, g0, g1, g2, g3, g4⟩ := ((HS.out.later HB0.out).later hB.out).get hjl
      have HT := mergeL_succ (a := xs) hjl
      have hL := HLe.out j
      generalize mergeL xs (ys.take j) = out at hO HT hL
      generalize ys.getD j (0, 0, 0, 0, false) = s at g0 g1 g2 g3 g4 HT
      obtain ⟨x0, x1, x2, x3, x4⟩ := s
      simp only at g0 g1 g2 g3 g4
      have k0 : (0 : Int) ≤ (j : Int) := by omega
      have k1 : (j : Int) < (m : Int) := by omega
      obtain ⟨a', c', hv⟩ := hO.out.shape
      obtain ⟨p, hp⟩ : ∃ p, out.length = p := ⟨_, rfl⟩
      rw [hp] at hv
      subst hv
      have HOP : Hid (out.length = p) := hp
      rw [hp] at hL
      have bX := balloc wr (.cells #[.int .i64 x0, .int .i64 x1, .int .i64 x2, .int .i64 x3, .bool x4] 82)
      have cX := x5_new wr (.int .i64 x0) (.int .i64 x1) (.int .i64 x2) (.int .i64 x3) (.bool x4) 82 wr.heap.size rfl
      have hO1 := hO.out.later bX
      have hB1 := hB.out.trans (bX.mono hB.out.size)
      obtain ⟨wy, hwy⟩ : ∃ V, wr.alloc (.cells #[.int .i64 x0, .int .i64 x1, .int .i64 x2, .int .i64 x3, .bool x4] 82) = V := ⟨_, rfl⟩
      rw [hwy] at bX cX hO1 hB1
      have HO1 : Hid (OwnS wy w2.heap.size (.slice a' p c') out) := hO1
      have HB1 : Hid (Below w2.heap.size w2 wy) := hB1
      have HC1 : Hid (X5 wy wr.heap.size (.int .i64 x0) (.int .i64 x1) (.int .i64 x2) (.int .i64 x3) (.bool x4)) := cX
      clear hO hB bX hO1 hB1 hjl hp
      obtain ⟨⟨d0, d1, d2, d3, d4⟩, df⟩ := cX
      clear df
      have HIn : Hid (∀ q, q ≤ p → out.take q = out → decide ((x0, x1, x2, x3, x4) ∈ out.take q) = decide ((x0, x1, x2, x3, x4) ∈ out)) := fun q _ h => by rw [h]
      go_wp2
      clear hwy d0 d1 d2 d3 d4
      go_loopw [9, 31] (fun hv iv wz => ∃ q : Nat, q ≤ p ∧ iv = .int .i64 q ∧ hv = .bool (decide ((x0, x1, x2, x3, x4) ∈ out.take q)) ∧ Hid (Below wy.heap.size wy wz)) (fun _ iv _ => p - (intOf iv).toNat)
      case atStart => exact ⟨0, Nat.zero_le _, rfl, by simp, Below.refl _ _⟩
      case round =>
        obtain ⟨q, hq, rfl, rfl, hBz⟩ := hrel
        by_cases hlq : q < p
        · have hql : q < out.length := by rw [HOP.out]; exact hlq
          obtain ⟨b', o', he', t0, t1, t2, t3, t4⟩ := (HO1.out.later hBz.out).rd'.2.get hql
          subst he'
          have HN : Hid (decide ((x0, x1, x2, x3, x4) ∈ out.take (q + 1)) = (decide ((x0, x1, x2, x3, x4) ∈ out.take q) || decide (out.getD q (0, 0, 0, 0, false) = (x0, x1, x2, x3, x4)))) := by
            show _ = _
            rw [take_snocT (d := (0, 0, 0, 0, false)) hql]
            simp [eq_comm]
          generalize out.getD q (0, 0, 0, 0, false) = s at t0 t1 t2 t3 t4 HN
          obtain ⟨y0, y1, y2, y3, y4⟩ := s
          simp only at t0 t1 t2 t3 t4
          have bX := balloc wr (.cells #[.int .i64 y0, .int .i64 y1, .int .i64 y2, .int .i64 y3, .bool y4] 82)
          have HBz1 : Hid (Below wy.heap.size wy (wr.alloc (.cells #[.int .i64 y0, .int .i64 y1, .int .i64 y2, .int .i64 y3, .bool y4] 82))) := hBz.out.trans (bX.mono hBz.out.size)
          obtain ⟨⟨d0, d1, d2, d3, d4⟩, df⟩ := (HC1.out.later hBz.out).later bX
          have hq := fun wx => run_eql_st y0 y1 y2 y3 y4 x0 x1 x2 x3 x4 wx
          have k2 : (0 : Int) ≤ (q : Int) := by omega
          have k3 : (q : Int) < (p : Int) := by omega
          clear df bX hql
          generalize decide ((x0, x1, x2, x3, x4) ∈ out.take q) = z0 at HN ⊢
          generalize decide ((y0, y1, y2, y3, y4) = (x0, x1, x2, x3, x4)) = z2 at HN hq
          cases z0
          · cases z2
            · go_wp2
              go_roundw
              case rel => exact ⟨q + 1, by omega, by go_num, by rw [HN.out]; rfl, HBz1⟩
              case measure => simp [intOf]; omega
            · go_wp2
              go_roundw
              case rel => exact ⟨q + 1, by omega, by go_num, by rw [HN.out]; rfl, HBz1⟩
              case measure => simp [intOf]; omega
          · go_wp2
            go_roundw
            case rel => exact ⟨q + 1, by omega, by go_num, by rw [HN.out]; rfl, HBz1⟩
            case measure => simp [intOf]; omega
        · obtain rfl : q = p := by omega
          rw [List.take_of_length_le (by rw [HOP.out]; omega)]
          have HO4 : Hid (OwnS wr w2.heap.size (.slice a' q c') out) := HO1.out.later hBz.out
          have HB4 : Hid (Below w2.heap.size w2 wr) := HB1.out.trans (hBz.out.mono HB1.out.size)
          have HC4 := HC1.out.later hBz.out
          by_cases hin : (x0, x1, x2, x3, x4) ∈ out
          · rw [decide_eq_true hin]
            rw [putS_in hin] at HT
            have HT2 : Hid (mergeL xs (ys.take (j + 1)) = out) := HT
            clear HT hin
            go_wp2
            go_roundw
            case rel => exact ⟨j + 1, by omega, by go_num, by show OwnS _ _ _ _; rw [HT2.out]; exact HO4.out, HB4⟩
            case measure => simp [intOf]; omega
          · rw [decide_eq_false hin]
            rw [putS_new hin] at HT
            have HT : Hid (mergeL xs (ys.take (j + 1)) = out ++ [(x0, x1, x2, x3, x4)]) := HT
            clear hin
            obtain ⟨⟨f0, f1, f2, f3, f4⟩, df⟩ := HC4
            clear df
            have bA := balloc wr (.cells #[.int .i64 x0, .int .i64 x1, .int .i64 x2, .int .i64 x3, .bool x4] 82)
            obtain ⟨v', w5, r1, o5, g5, b5⟩ := appendS_run (wr.alloc (.cells #[.int .i64 x0, .int .i64 x1, .int .i64 x2, .int .i64 x3, .bool x4] 82)) w2.heap.size (.slice a' q c') out [(x0, x1, x2, x3, x4)] (some ⟨wr.heap.size, 0, none⟩) 1 1 (HO4.out.later bA) (litS wr _ _ _ _ _) rfl (fun e => by cases e) (by rw [HOP.out]; omega) (Nat.le_trans HB4.out.size bA.size)
            have HO5 : Hid (OwnS w5 w2.heap.size v' (out ++ [(x0, x1, x2, x3, x4)])) := o5
            have HB5 : Hid (Below w2.heap.size w2 w5) := (HB4.out.trans (bA.mono HB4.out.size)).trans b5
            clear bA o5 g5 b5
            go_wp2_with (at_builtin; refine Lib.wpList_append_run _ rfl _ _ _ _ rfl _ _ rfl rfl _ _ (r1 _) ?_; clear r1)
            go_roundw
            case rel => exact ⟨j + 1, by omega, by go_num, by show OwnS _ _ _ _; rw [HT.out]; exact HO5.out, HB5⟩
            case measure => simp [intOf]; omega
    · obtain rfl : j = m := by omega
      have hO' := hO.out
      rw [HE.out] at hO'
      have hLm := HLe.out j
      rw [HE.out] at hLm
      clear hO HE HLe
      obtain ⟨a', c', hv⟩ := hO'.shape
      obtain ⟨p, hp⟩ : ∃ p, res.length = p := ⟨_, rfl⟩
      rw [hp] at hv hLm
      subst hv
      have HO1 : Hid (OwnS wr w2.heap.size (.slice a' p c') res) := hO'
      have HP : Hid (res.length = p) := hp
      clear hO' hp
      by_cases h60 : p ≤ 60
      · have h61 : ¬ (60 : Int) < (p : Int) := by omega
        have hz := HYe.out (by rw [HP.out]; exact h60)
        have HZ : Hid (zb = true ∧ zl = res) := hz
        clear hz
        go_wp2
        refine bodyPost_ret (v := .tuple #[.slice a' p c', .bool true]) (by simp [results, Try.results51, go_sem]; try rfl) rfl ?_
        exact ⟨a', p, c', by rw [HZ.out.1], by rw [HZ.out.2]; exact HO1.out.mono HB0.out.size, HB0.out.trans (hB.out.mono HB0.out.size)⟩
      · have h61 : (60 : Int) < (p : Int) := by omega
        have hz := HNo.out (by rw [HP.out]; exact h60)
        have HZ : Hid (zb = false ∧ zl = []) := hz
        clear hz
        go_wp2
        refine bodyPost_ret (v := .tuple #[.slice none 0 0, .bool false]) (by simp [results, Try.results51, go_sem]; try rfl) rfl ?_
        exact ⟨none, 0, 0, by rw [HZ.out.1], by rw [HZ.out.2]; exact own_nilS _ _, HB0.out.trans (hB.out.mono HB0.out.size)⟩

end Go.Proofs.Ytleddlfojogdiaa
