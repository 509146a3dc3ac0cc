/- OrderAt of the specification: the contract. -/
import Derived.Test.YtlmamlhpjakcoaaOI4
import Derived.Deep.AppendLies
namespace Go.Proofs.Ytlmamlhpjakcoaa
set_option linter.unusedVariables false
set_option linter.unusedSimpArgs false
open Go.RowKit

theorem nil_row (w : World) : (w.alloc (.cells #[] 3)).ownsRow w.heap.size 3 1 (.slice (some ⟨w.heap.size, 0, none⟩) 0 0) 0 [] :=
  ⟨rfl, .inr ⟨w.heap.size, 0, #[], rfl, Nat.le_refl _, (by show (w.heap.push _)[w.heap.size]? = _; simp), Nat.le_refl _, Nat.zero_le _, rfl, rfl⟩⟩

theorem own_erase {w : World} {base a q : Nat} {v : Value} {ls : List Int} (h : w.ownsRow base 3 1 v (a + (q - (a + 1))) (cellsI (ls.take a) ++ cellsI (ls.drop (a + 1)))) (ha : a < ls.length) (hq : ls.length = q) : Own w base v (ls.eraseIdx a) := by
  unfold Own
  rw [List.length_eraseIdx, if_pos ha, hq, show q - 1 = a + (q - (a + 1)) by omega, List.eraseIdx_eq_take_drop_succ]
  have e : cellsI (ls.take a ++ ls.drop (a + 1)) = cellsI (ls.take a) ++ cellsI (ls.drop (a + 1)) := by simp [cellsI]
  rw [e]; exact h

set_option maxHeartbeats 1600000 in
set_option maxRecDepth 1000000 in
theorem specOrder_at (m N0 : Nat) (w : World) (hm : m ≤ 9) (hN : N0 < fac m) :
    Calls Try.prog 29 #[.int .i64 m, .int .i64 N0] w fun e w' => ∃ a' c', e = .returned (.tuple #[.slice a' m c', .bool true]) ∧ Own w' w.heap.size (.slice a' m c') (ordL m (upI m) N0) ∧ Below w.heap.size w w' := by
  obtain ⟨i0, hi, hz0, hz1, hz2⟩ := info_parts Try.infoInt
  have ho := fun wx => l4Orders_c m wx (by omega)
  have hi1 := fun wx => l1In_c (m : Int) 0 9 wx
  rw [decide_eq_true (by omega)] at hi1
  have hfb := fac_le9 hm
  obtain ⟨F0, hF0⟩ : ∃ F0, F0 = fac m := ⟨_, rfl⟩
  have HN0 : Hid (N0 < fac m) := hN
  rw [← hF0] at ho hN hfb
  have hi2 := fun wx => l1In_c (N0 : Int) 0 ((F0 : Int) - 1) wx
  rw [decide_eq_true (by omega)] at hi2
  obtain ⟨R, hR⟩ : ∃ R, R = ordL m (upI m) N0 := ⟨_, rfl⟩
  rw [← hR]
  have HRL : Hid (R.length = m) := by show _ = _; rw [hR, ordL_length]
  have HR : Hid ([] ++ ordL m (upI m) N0 = R) := by show _ = _; rw [hR]; rfl
  clear hF0 hR
  go_enter Try.func29, Try.ntmps29
  go_wp2_with (first | (go_at_call 69; refine (hi1 _).mono ?_; clear hi1; rintro e w' ⟨rfl, hw⟩; subst w') | (go_at_call 73; refine (ho _).mono ?_; clear ho; rintro e w' ⟨rfl, hw⟩; subst w') | (go_at_call 69; refine (hi2 _).mono ?_; clear hi2; rintro e w' ⟨rfl, hw⟩; subst w'))
  go_loopw [6, 7] (fun v i wr => ∃ k : Nat, k ≤ m ∧ i = .int .i64 k ∧ Hid (Own wr w.heap.size v (upI k)) ∧ Hid (Below w.heap.size w wr)) (fun _ i _ => m - (intOf i).toNat)
  case atStart => exact ⟨0, Nat.zero_le _, rfl, World.ownsRow_nil _ _ _ _, Below.refl _ _⟩
  case round =>
    obtain ⟨k, hk, rfl, hO, hB⟩ := hrel
    by_cases hlt : k < m
    · have hob : ∀ k', u6.ownBlock = some k' → w.heap.size ≤ k' := own_block_ge hO.out
      have hown : wr.ownsRow w.heap.size 3 1 u6 k (cellsI (upI k)) := by have h := hO.out; unfold Own at h; rw [upI_length] at h; exact h
      have hone : ∀ u ∈ [Value.int .i64 (k : Int)], u.oneCell' = true := ints_oneCell _ [(k : Int)]
      have hki : (k : Int) < (m : Int) := by omega
      go_wp2_with (at_builtin; refine wpList_append_own _ rfl _ _ 23 rfl w.heap.size 3 i0 (.int .i64 0) 1 8 Try.underlying23 hi hz0 hz1 hz2 rfl (by decide) _ _ _ rfl (hown.alloc _) ⟨wr.heap.size, 0, none⟩ 1 1 [.int .i64 (k : Int)] rfl rfl (cell_new1 _ _ _) hone (by unfold maxLen; omega) (by omega) (by have := hB.out.size; simp; omega) ?_; intro v' w2 hown' hgrow _; have HO' : Hid (Own w2 w.heap.size v' (upI (k + 1))) := (by rw [upI_succ]; exact own_push (w := wr) (v := u6) (by simpa [upI_length] using hown')); have HB' : Hid (Below w.heap.size w w2) := (hB.out.alloc hB.out.size _).grown hgrow (by have := hB.out.size; simp; omega) (fun k' e => hob k' e); clear hown' hgrow)
      go_roundw
      case rel => exact ⟨k + 1, by omega, by go_num, HO', HB'⟩
      case measure => simp [intOf]; omega
    · obtain rfl : k = m := by omega
      have hmi : ((k : Int)) ≤ (k : Int) := by omega
      obtain ⟨a0, c0, hv⟩ := hO.out.shape
      rw [upI_length] at hv
      subst hv
      clear hfb
      go_wp2
      obtain ⟨wo, rfl⟩ : ∃ wo : World, wo = wr := ⟨_, rfl⟩
      go_loopw [1, 6, 8] (fun nv lv ov wr => ∃ (q N L cl : Nat) (al : Option Addr) (ls out : List Int), nv = .int .i64 N ∧ lv = .slice al q cl ∧ q ≤ k ∧ N ≤ 362880 ∧ Hid (N < fac q) ∧ Hid (Own wr L (.slice al q cl) ls) ∧ Hid (Own wr w.heap.size ov out) ∧ Hid (∀ b, ov.ownBlock = some b → b < L) ∧ w.heap.size ≤ L ∧ L ≤ wr.heap.size ∧ Hid (out ++ ordL q ls N = R) ∧ Hid (Below w.heap.size w wr)) (fun _ lv _ _ => lenOf lv)
      case atStart => exact ⟨k, N0, w.heap.size, c0, a0, upI k, [], rfl, rfl, Nat.le_refl _, by have h1 := HN0.out; have h2 := fac_le9 hm; omega, HN0, hO, World.ownsRow_nil _ _ _ _, (by intro b h; cases h), Nat.le_refl _, hB.out.size, HR, hB⟩
      case round =>
        clear hO hB HR HN0
        obtain ⟨q, N, L, cl, al, ls, out, rfl, rfl, hqk, hN9, hNq, hL, hOo, hsep, hwL, hLw, hZ, hB⟩ := hrel
        have hlq : ls.length = q := hL.out.rd'.1
        by_cases hq : 0 < q
        · obtain ⟨g, rfl, hgL, hgw, hqc, hcm⟩ : ∃ g, al = some ⟨g, 0, none⟩ ∧ L ≤ g ∧ g < wr.heap.size ∧ q ≤ cl ∧ cl ≤ maxLen := by
            rcases hL.out.form with ⟨h, h2⟩ | ⟨g, cap, h, h1, h2, h3, h4⟩
            · rw [h2] at hlq; simp at hlq; omega
            · simp only [Value.slice.injEq] at h
              obtain ⟨rfl, h5, rfl⟩ := h
              exact ⟨g, rfl, h1, h2, by omega, h4⟩
          obtain ⟨q1, hq1⟩ : ∃ q1, q1 = q - 1 := ⟨_, rfl⟩
          have hq1i : (q : Int) - 1 = (q1 : Int) := by omega
          have hfo := fun wx => l4Orders_c q1 wx (by omega)
          obtain ⟨F1, hF1⟩ : ∃ F1, F1 = fac q1 := ⟨_, rfl⟩
          rw [← hF1] at hfo
          have hF1p : 0 < F1 := by rw [hF1]; exact fac_pos _
          have hF1le : F1 ≤ 362880 := by rw [hF1]; exact fac_le9 (by omega)
          have hFm : fac q = q * F1 := by
            rw [hF1, hq1]
            obtain ⟨p, rfl⟩ : ∃ p, q = p + 1 := ⟨q - 1, by omega⟩
            rfl
          obtain ⟨a, ha⟩ : ∃ a, a = N / F1 := ⟨_, rfl⟩
          obtain ⟨N1, hN1⟩ : ∃ N1, N1 = N % F1 := ⟨_, rfl⟩
          have haq : a < q := by rw [ha, Nat.div_lt_iff_lt_mul hF1p, ← hFm]; exact hNq.out
          have hN1F : N1 < F1 := by rw [hN1]; exact Nat.mod_lt _ hF1p
          have d3 : (N : Int) / (F1 : Int) = (a : Int) := by rw [ha]; simp
          have d4 : (N : Int).tdiv (F1 : Int) = (a : Int) := by rw [Int.tdiv_eq_ediv_of_nonneg (by omega)]; exact d3
          have d5 : (N : Int) % (F1 : Int) = (N1 : Int) := by rw [hN1]; simp
          have d6 : (N : Int).tmod (F1 : Int) = (N1 : Int) := by rw [Int.tmod_eq_emod_of_nonneg (by omega)]; exact d5
          have hf0 : (F1 : Int) ≠ 0 := by omega
          have hqi : (0 : Int) < (q : Int) := by omega
          have a0' : (0 : Int) ≤ (a : Int) := by omega
          have a1 : (a : Int) < (q : Int) := by omega
          have g1 : wr.cell? ⟨g, a, none⟩ = some (.int .i64 (ls.getD a 0)) := by
            have h := hL.out; rw [← hlq] at h; exact h.cell a (by omega)
          have HZ2 : Hid ((out ++ [ls.getD a 0]) ++ ordL (q - 1) (ls.eraseIdx a) N1 = R) := by
            show _ = _
            rw [← hZ.out, ordL_step hq, ← hq1, ← hF1, ← ha, ← hN1]; simp
          generalize ls.getD a 0 = x at g1 HZ2
          have hob : ∀ k', u8.ownBlock = some k' → w.heap.size ≤ k' := own_block_ge hOo.out
          obtain ⟨p, hp⟩ : ∃ p, out.length = p := ⟨_, rfl⟩
          have hp9 : p ≤ 9 := by
            have h := congrArg List.length hZ.out
            rw [List.length_append, ordL_length, HRL.out] at h
            omega
          have hown : wr.ownsRow w.heap.size 3 1 u8 p (cellsI out) := by have h := hOo.out; unfold Own at h; rw [hp] at h; exact h
          have HP : Hid (out.length = p) := hp
          have hone : ∀ u ∈ [Value.int .i64 x], u.oneCell' = true := ints_oneCell _ [x]
          have HF1 : Hid (N1 < fac (q - 1)) := by show _ < _; rw [← hq1, ← hF1]; exact hN1F
          have HLQ : Hid (ls.length = q) := hlq
          have HLB : Hid (w.heap.size ≤ L ∧ L ≤ wr.heap.size ∧ L ≤ g ∧ g < wr.heap.size) := ⟨hwL, hLw, hgL, hgw⟩
          have hN19 : N1 ≤ 362880 := by omega
          unfold maxLen at hcm
          obtain ⟨A, hA⟩ : ∃ A : Addr, (if cl = a + 1 then some (⟨g, 0, none⟩ : Addr) else some ⟨g, a + 1, none⟩) = some A ∧ (a + 1 < q → A = ⟨g, a + 1, none⟩) := by
            by_cases h : cl = a + 1
            · exact ⟨⟨g, 0, none⟩, by simp [h], fun h2 => by omega⟩
            · exact ⟨⟨g, a + 1, none⟩, by simp [h], fun _ => rfl⟩
          obtain ⟨hA1, hA2⟩ := hA
          have HA2 : Hid (a + 1 < q → A = ⟨g, a + 1, none⟩) := hA2
          clear hq1 hF1 hFm ha hN1 hNq hZ hp hlq hOo hwL hLw hgL hA2
          have hac : a ≤ cl := by omega
          have ha1c : a + 1 ≤ cl := by omega
          have H2n : Hid (∀ (wx : World), Own wx L (.slice (some ⟨g, 0, none⟩) q cl) ls → ∀ j u, (cellsI (ls.take a))[j]? = some u → wx.cell? ((⟨g, 0, none⟩ : Addr).add j) = some u) := fun wx h j u hu => by
            have hj : j < a := by have := (List.getElem?_eq_some_iff.1 hu).1; rw [cellsI_length, List.length_take] at this; omega
            have h' := h; rw [← HLQ.out] at h'
            rw [Go.WideShapes.add_plain, Nat.zero_add, h'.cell j (by rw [HLQ.out]; omega)]
            rw [getD_map_int _ _ (by rw [List.length_take, HLQ.out]; omega)] at hu
            simp only [Option.some.injEq] at hu
            rw [← hu]
            simp [List.getD, List.getElem?_take, hj]
          have H3n : Hid (∀ (wx : World), Own wx L (.slice (some ⟨g, 0, none⟩) q cl) ls → ∀ j u, (cellsI (ls.drop (a + 1)))[j]? = some u → wx.cell? (A.add j) = some u) := fun wx h j u hu => by
            have hj : j < q - (a + 1) := by have := (List.getElem?_eq_some_iff.1 hu).1; rw [cellsI_length, List.length_drop, HLQ.out] at this; omega
            rw [HA2.out (by omega), Go.WideShapes.add_plain]
            have h' := h; rw [← HLQ.out] at h'
            rw [h'.cell (a + 1 + j) (by rw [HLQ.out]; omega)]
            rw [getD_map_int _ _ (by rw [List.length_drop, HLQ.out]; omega)] at hu
            simp only [Option.some.injEq] at hu
            rw [← hu]
            simp [List.getD]
          have H2l : Hid ((cellsI (ls.take a)).length = a * 1) := by show _ = _; rw [cellsI_length, List.length_take, HLQ.out]; omega
          have H3l : Hid ((cellsI (ls.drop (a + 1))).length = (q - (a + 1)) * 1) := by show _ = _; rw [cellsI_length, List.length_drop, HLQ.out]; omega
          have tok : True := trivial
          go_wp2_with (first | (go_at_call 73; refine (hfo _).mono ?_; clear hfo; rintro e w' ⟨rfl, hw⟩; subst w') | (at_builtin; refine wpList_append_lies _ rfl _ _ 23 rfl w.heap.size 3 i0 (.int .i64 0) 1 8 Try.underlying23 hi hz0 hz1 hz2 rfl (by decide) _ _ _ rfl (hown.alloc _) ⟨wr.heap.size, 0, none⟩ 1 1 [.int .i64 x] rfl rfl (cell_new1 _ _ _) hone (by decide) (by unfold maxLen; omega) (by omega) (by have := HLB.out; simp; omega) (wr.heap.size + 1) (by simp) ?_; intro g2 c2 w2 hown' hgrow hwhere hlt2; have HO2 : Hid (Own w2 w.heap.size (.slice (some ⟨g2, 0, none⟩) (p + 1) c2) (out ++ [x])) := own_push (w := wr) (v := u8) (by simpa [HP.out] using hown'); have HB2 : Hid (Below w.heap.size w w2) := (hB.out.alloc hB.out.size _).grown hgrow (by have := HLB.out; simp; omega) (fun k' e => hob k' e); have HL2 : Hid (Own w2 L (.slice (some ⟨g, 0, none⟩) q cl) ls) := (hL.out.later (balloc wr _)).kept hgrow (Or.inr (fun e => by have := hsep.out g e.symm; have := HLB.out; omega)); have hz2' : wr.heap.size ≤ w2.heap.size := Nat.le_trans (by simp) hgrow.size; clear hown hown' hgrow hwhere) | (at_builtin; refine wpList_append_own _ rfl _ _ 23 rfl w2.heap.size 3 i0 (.int .i64 0) 1 8 Try.underlying23 hi hz0 hz1 hz2 rfl (by decide) _ _ _ rfl (nil_row w2) ⟨g, 0, none⟩ a cl (cellsI (ls.take a)) rfl H2l.out (H2n.out _ (HL2.out.later (balloc w2 _))) (cellsI_oneCell _) (by unfold maxLen; omega) (by omega) (by simp) ?_; intro v3 w3 hown3 hgrow3 _; have HO3 : Hid (Own w3 w.heap.size (.slice (some ⟨g2, 0, none⟩) (p + 1) c2) (out ++ [x])) := (HO2.out.later (balloc w2 _)).kept hgrow3 (Or.inr (fun e => by have e' : g2 = w2.heap.size := (Option.some.inj e); omega)); have HB3 : Hid (Below w.heap.size w w3) := (HB2.out.alloc HB2.out.size _).grown hgrow3 (by have := HB2.out.size; simp; omega) (fun k' e => by have e' : w2.heap.size = k' := (Option.some.inj e); have := HB2.out.size; omega); have HL3 : Hid (Own w3 L (.slice (some ⟨g, 0, none⟩) q cl) ls) := (HL2.out.later (balloc w2 _)).kept hgrow3 (Or.inr (fun e => by have e' : g = w2.heap.size := (Option.some.inj e); omega)); have hz3 : w2.heap.size ≤ w3.heap.size := Nat.le_trans (by simp) hgrow3.size; have hown3' : w3.ownsRow w2.heap.size 3 1 v3 a (cellsI (ls.take a)) := (by simpa using hown3); have hob3 : ∀ k', v3.ownBlock = some k' → w2.heap.size ≤ k' := (fun k' e => (World.ownsRow.lt hown3' k' e).1); clear hown3 hgrow3 HO2 HB2 HL2 tok) | (at_builtin; refine wpList_append_own _ rfl _ _ 23 rfl w2.heap.size 3 i0 (.int .i64 0) 1 8 Try.underlying23 hi hz0 hz1 hz2 rfl (by decide) _ _ _ rfl hown3' A (q - (a + 1)) (cl - (a + 1)) (cellsI (ls.drop (a + 1))) rfl H3l.out (H3n.out _ HL3.out) (cellsI_oneCell _) (by unfold maxLen; omega) (by omega) (by omega) ?_; intro v4 w4 hown4 hgrow4 _; have HO4 : Hid (Own w4 w.heap.size (.slice (some ⟨g2, 0, none⟩) (p + 1) c2) (out ++ [x])) := HO3.out.kept hgrow4 (Or.inr (fun e => by have := hob3 g2 e.symm; omega)); have HB4 : Hid (Below w.heap.size w w4) := HB3.out.grown hgrow4 HB3.out.size (fun k' e => by have := hob3 k' e; have := HLB.out; omega); have hz4 : w2.heap.size ≤ w4.heap.size := Nat.le_trans hz3 hgrow4.size; have HL4 : Hid (Own w4 w2.heap.size v4 (ls.eraseIdx a)) := (own_erase hown4 (by rw [HLQ.out]; omega) HLQ.out); clear hown4 hgrow4))
          obtain ⟨a4, c4, hv4⟩ := HL4.out.shape
          rw [List.length_eraseIdx, if_pos (by rw [HLQ.out]; omega), HLQ.out] at hv4
          subst hv4
          go_roundw
          case rel => exact ⟨q - 1, N1, w2.heap.size, c4, a4, ls.eraseIdx a, out ++ [x], rfl, rfl, by omega, hN19, HF1, HL4, HO4, (by intro b hb; have e' : g2 = b := (Option.some.inj hb); omega), by have := HLB.out; omega, hz4, HZ2, HB4⟩
          case measure => simp [lenOf]; omega
        · obtain rfl : q = 0 := by omega
          have HE : Hid (out = R) := by show _ = _; rw [← hZ.out]; simp [ordL]
          obtain ⟨a', c', hv⟩ := hOo.out.shape
          have hRl : R.length = k := HRL.out
          have hol : out.length = k := by rw [HE.out]; exact hRl
          rw [hol] at hv
          subst hv
          clear hZ hlq hNq hRl hol
          go_wp2
          refine bodyPost_ret (v := .tuple #[.slice a' k c', .bool true]) (by simp [results, Try.results29, go_sem]; try rfl) rfl ?_
          exact ⟨a', c', rfl, by rw [← HE.out]; exact hOo.out, hB.out⟩

theorem specOrder_c (x y : Int) (w : World) (zs : List Int) (fb : Bool) (p : Nat) (hF : orderF x y = (zs, fb)) (hp : zs.length = p) :
    Calls Try.prog 29 #[.int .i64 x, .int .i64 y] w fun e w' => ∃ a' c', e = .returned (.tuple #[.slice a' p c', .bool fb]) ∧ Own w' w.heap.size (.slice a' p c') zs ∧ Below w.heap.size w w' := by
  unfold orderF at hF
  by_cases h : (0 ≤ x ∧ x ≤ 9) ∧ (0 ≤ y ∧ y < (fac x.toNat : Nat))
  · rw [if_pos h] at hF
    simp only [Prod.mk.injEq] at hF
    obtain ⟨rfl, rfl⟩ := hF
    obtain ⟨m, rfl⟩ : ∃ m : Nat, x = m := ⟨x.toNat, by omega⟩
    obtain ⟨n, rfl⟩ : ∃ n : Nat, y = n := ⟨y.toNat, by omega⟩
    simp only [Int.toNat_natCast] at *
    rw [ordL_length] at hp
    subst hp
    exact specOrder_at m n w (by omega) (by omega)
  · rw [if_neg h] at hF
    simp only [Prod.mk.injEq] at hF
    obtain ⟨rfl, rfl⟩ := hF
    simp at hp
    subst hp
    have hi1 := fun wx => l1In_c x 0 9 wx
    by_cases h1 : 0 ≤ x ∧ x ≤ 9
    · rw [decide_eq_true h1] at hi1
      obtain ⟨m, rfl⟩ : ∃ m : Nat, x = m := ⟨x.toNat, by omega⟩
      simp only [Int.toNat_natCast] at h
      have ho := fun wx => l4Orders_c m wx (by omega)
      have hfb := fac_le9 (show m ≤ 9 by omega)
      generalize fac m = F0 at ho hfb h
      have hi2 := fun wx => l1In_c y 0 ((F0 : Int) - 1) wx
      rw [decide_eq_false (by omega)] at hi2
      clear h h1
      go_enter Try.func29, Try.ntmps29
      go_wp2_with (first | (go_at_call 69; refine (hi1 _).mono ?_; clear hi1; rintro e w' ⟨rfl, hw⟩; subst w') | (go_at_call 73; refine (ho _).mono ?_; clear ho; rintro e w' ⟨rfl, hw⟩; subst w') | (go_at_call 69; refine (hi2 _).mono ?_; clear hi2; rintro e w' ⟨rfl, hw⟩; subst w'))
      refine bodyPost_ret (v := .tuple #[.slice none 0 0, .bool false]) (by simp [results, Try.results29, go_sem]; try rfl) rfl ?_
      exact ⟨none, 0, rfl, World.ownsRow_nil _ _ _ _, Below.refl _ _⟩
    · rw [decide_eq_false h1] at hi1
      clear h h1
      go_enter Try.func29, Try.ntmps29
      go_wp2_with (go_at_call 69; refine (hi1 _).mono ?_; clear hi1; rintro e w' ⟨rfl, hw⟩; subst w')
      refine bodyPost_ret (v := .tuple #[.slice none 0 0, .bool false]) (by simp [results, Try.results29, go_sem]; try rfl) rfl ?_
      exact ⟨none, 0, rfl, World.ownsRow_nil _ _ _ _, Below.refl _ _⟩

end Go.Proofs.Ytlmamlhpjakcoaa
