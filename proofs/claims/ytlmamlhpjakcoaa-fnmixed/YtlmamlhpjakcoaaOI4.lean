/- OrderAt of the program: the contract. -/
import Derived.Test.YtlmamlhpjakcoaaNL4
import Derived.Test.YtlmamlhpjakcoaaDL4
namespace Go.Proofs.Ytlmamlhpjakcoaa
set_option linter.unusedVariables false
set_option linter.unusedSimpArgs false
open Go.RowKit

def lenOf : Value → Nat
  | .slice _ n _ => n
  | _ => 0
def orderF (x y : Int) : List Int × Bool := if (0 ≤ x ∧ x ≤ 9) ∧ (0 ≤ y ∧ y < (fac x.toNat : Nat)) then (ordL x.toNat (upI x.toNat) y.toNat, true) else ([], false)
theorem orderF_short {x y : Int} {zs : List Int} {fb : Bool} (h : orderF x y = (zs, fb)) : zs.length ≤ 9 := by
  unfold orderF at h
  split at h
  · rename_i hc
    simp only [Prod.mk.injEq] at h
    rw [← h.1, ordL_length]; omega
  · simp only [Prod.mk.injEq] at h
    rw [← h.1]; simp
theorem fac_div {q : Nat} (h : 0 < q) : fac q / q = fac (q - 1) := by
  obtain ⟨p, rfl⟩ : ∃ p, q = p + 1 := ⟨q - 1, by omega⟩
  rw [fac, Nat.mul_div_cancel_left _ (by omega)]; rfl
theorem ordL_step {q N : Nat} {ls : List Int} (h : 0 < q) : ordL q ls N = ls.getD (N / fac (q - 1)) 0 :: ordL (q - 1) (ls.eraseIdx (N / fac (q - 1))) (N % fac (q - 1)) := by
  obtain ⟨p, rfl⟩ : ∃ p, q = p + 1 := ⟨q - 1, by omega⟩
  rfl
theorem ownsRow_keep {w w' : World} {base t n k : Nat} {v : Value} {l : List Value} (h : w.ownsRow base t n v k l) (hb : ∀ g, v.ownBlock = some g → w'.heap[g]? = w.heap[g]?) : w'.ownsRow base t n v k l := by
  refine ⟨h.1, ?_⟩
  rcases h.2 with h2 | ⟨g, cap, cur, rfl, hg, hh, r⟩
  · exact Or.inl h2
  · exact Or.inr ⟨g, cap, cur, rfl, hg, by rw [hb g rfl]; exact hh, r⟩

set_option maxHeartbeats 4000000 in
theorem implOrder_at (m N0 : Nat) (w : World) (hm : m ≤ 9) (hN : N0 < fac m) :
    Calls Try.prog 28 #[.int .i64 m, .int .i64 N0] w fun e w' => ∃ a' c', e = .returned (.tuple #[.slice a' m c', .bool true]) ∧ Own w' w.heap.size (.slice a' m c') (ordL m (upI m) N0) ∧ Below w.heap.size w w' := by
  obtain ⟨i0, hi, hz0, hz1, hz2⟩ := info_parts Try.infoInt
  have ho := fun wx => implOrders_m m wx hm
  have hfb := fac_le9 hm
  have HF0 : Hid (fac m = fac m) := rfl
  obtain ⟨F0, hF0⟩ : ∃ F0, F0 = fac m := ⟨_, rfl⟩
  have HFF : Hid (F0 = fac m) := hF0
  rw [← hF0] at ho hN hfb
  obtain ⟨R, hR⟩ : ∃ R, R = ordL m (upI m) N0 := ⟨_, rfl⟩
  rw [← hR]
  have HR : Hid (R = ordL m (upI m) N0) := hR
  have n0 : (0 : Int) ≤ (N0 : Int) := by omega
  have n0d : decide ((N0 : Int) < 0) = false := decide_eq_false (by omega)
  have n1 : (N0 : Int) < (F0 : Int) := by omega
  have n1d : decide (F0 ≤ N0) = false := decide_eq_false (by omega)
  clear hF0 hR HF0
  go_enter Try.func28, Try.ntmps28
  go_wp2_with (go_at_call 32; refine (ho _).mono ?_; clear ho; rintro e w' ⟨rfl, hw⟩; subst w')
  go_loopw [8, 29] (fun v i wr => ∃ k : Nat, k ≤ m ∧ i = .int .i64 k ∧ Hid (Own wr w.heap.size v (upI k)) ∧ Hid (Below w.heap.size w wr)) (fun _ i _ => m - (intOf i).toNat)
  case atStart => exact ⟨0, Nat.zero_le _, rfl, World.ownsRow_nil _ _ _ _, Below.refl _ _⟩
  case round =>
    obtain ⟨k, hk, rfl, hO, hB⟩ := hrel
    by_cases hlt : k < m
    · have hob : ∀ k', u8.ownBlock = some k' → w.heap.size ≤ k' := own_block_ge hO.out
      have hown : wr.ownsRow w.heap.size 3 1 u8 k (cellsI (upI k)) := by have h := hO.out; unfold Own at h; rw [upI_length] at h; exact h
      have hone : ∀ u ∈ [Value.int .i64 (k : Int)], u.oneCell' = true := ints_oneCell _ [(k : Int)]
      have hki : (k : Int) < (m : Int) := by omega
      go_wp2_with (at_builtin; refine wpList_append_own _ rfl _ _ 23 rfl w.heap.size 3 i0 (.int .i64 0) 1 8 Try.underlying23 hi hz0 hz1 hz2 rfl (by decide) _ _ _ rfl (hown.alloc _) ⟨wr.heap.size, 0, none⟩ 1 1 [.int .i64 (k : Int)] rfl rfl (cell_new1 _ _ _) hone (by unfold maxLen; omega) (by omega) (by have := hB.out.size; simp; omega) ?_; intro v' w2 hown' hgrow _; have HO' : Hid (Own w2 w.heap.size v' (upI (k + 1))) := (by rw [upI_succ]; exact own_push (w := wr) (v := u8) (by simpa [upI_length] using hown')); have HB' : Hid (Below w.heap.size w w2) := (hB.out.alloc hB.out.size _).grown hgrow (by have := hB.out.size; simp; omega) (fun k' e => hob k' e); clear hown' hgrow)
      go_roundw
      case rel => exact ⟨k + 1, by omega, by go_num, HO', HB'⟩
      case measure => simp [intOf]; omega
    · obtain rfl : k = m := by omega
      have hmi : ((k : Int)) ≤ (k : Int) := by omega
      by_cases h0 : k = 0
      · subst h0
        have hR0 : R = [] := HR.out
        have hv := hO.out.form
        have hv2 : ∃ a c, u8 = .slice a 0 c := by
          rcases hv with ⟨h, _⟩ | ⟨g, cap, h, _⟩
          · exact ⟨_, _, h⟩
          · exact ⟨_, _, h⟩
        obtain ⟨a, c, rfl⟩ := hv2
        have HR0 : Hid (R = []) := hR0
        clear hR0 hv HR HFF
        go_wp2
        refine wp_loop_rounds 1 ?_
        rw [rounds_succ]
        go_wp2
        refine bodyPost_ret (v := .tuple #[.slice none 0 0, .bool true]) (by simp [results, Try.results28, go_sem]; try rfl) rfl ?_
        exact ⟨none, 0, rfl, by rw [HR0.out]; exact World.ownsRow_nil _ _ _ _, hB.out⟩
      · obtain ⟨g, c, rfl, hg1, hg2, hc⟩ : ∃ g c, u8 = .slice (some ⟨g, 0, none⟩) k c ∧ w.heap.size ≤ g ∧ g < wr.heap.size ∧ True := by
          rcases hO.out.form with ⟨_, h⟩ | ⟨g, cap, h, h1, h2, _⟩
          · have := congrArg List.length h
            rw [upI_length] at this
            exact absurd this h0
          · rw [upI_length] at h
            exact ⟨g, cap, h, h1, h2, trivial⟩
        obtain ⟨w1, hw1⟩ : ∃ w1, w1 = wr := ⟨_, rfl⟩
        have HL0 : Hid (Own w1 w.heap.size (.slice (some ⟨g, 0, none⟩) k c) (upI k)) := by show Own _ _ _ _; rw [hw1]; exact hO.out
        have HB0 : Hid (Below w.heap.size w w1) := by show Below _ _ _; rw [hw1]; exact hB.out
        have hg3 : g < w1.heap.size := by rw [hw1]; exact hg2
        have HB1s : Hid (w.heap.size ≤ w1.heap.size) := HB0.out.size
        have HRL : Hid (R.length = k) := by show _ = _; rw [HR.out, ordL_length]
        have HZ : Hid ([] ++ ordL k (upI k) N0 = R) := by show _ = _; rw [HR.out]; rfl
        rw [← hw1]
        clear hO hB hw1 hg2 hc HR
        go_wp2
        go_loopw [1, 6, 8, 9] (fun nv fv lv ov wr => ∃ (q N F : Nat) (ls out : List Int), nv = .int .i64 N ∧ fv = .int .i64 F ∧ lv = .slice (some ⟨g, 0, none⟩) q c ∧ q ≤ k ∧ N < F ∧ F ≤ 362880 ∧ Hid (F = fac q) ∧ Hid (Own wr w.heap.size (.slice (some ⟨g, 0, none⟩) q c) ls) ∧ Hid (Own wr w1.heap.size ov out) ∧ Hid (out ++ ordL q ls N = R) ∧ Hid (Below w.heap.size w wr) ∧ w1.heap.size ≤ wr.heap.size) (fun _ _ lv _ _ => lenOf lv)
        case atStart => exact ⟨k, N0, F0, upI k, [], rfl, rfl, rfl, Nat.le_refl _, hN, hfb, HFF, HL0, World.ownsRow_nil _ _ _ _, HZ, HB0, Nat.le_refl _⟩
        case round =>
          clear HL0 HB0 HZ
          obtain ⟨q, N, F, ls, out, rfl, rfl, rfl, hqk, hNF, hF9, hFq, hL, hOo, hZ, hB, hsz⟩ := hrel
          have hlq : ls.length = q := hL.out.rd'.1
          by_cases hq : 0 < q
          · obtain ⟨F1, hF1⟩ : ∃ F1, F1 = fac (q - 1) := ⟨_, rfl⟩
            have hF1p : 0 < F1 := by rw [hF1]; exact fac_pos _
            have hFF1 : F / q = F1 := by rw [hFq.out, fac_div hq, hF1]
            have hFm : F = q * F1 := by
              rw [hFq.out, hF1]
              obtain ⟨p, rfl⟩ : ∃ p, q = p + 1 := ⟨q - 1, by omega⟩
              rfl
            obtain ⟨a, ha⟩ : ∃ a, a = N / F1 := ⟨_, rfl⟩
            obtain ⟨N1, hN1⟩ : ∃ N1, N1 = N % F1 := ⟨_, rfl⟩
            have haq : a < q := by rw [ha, Nat.div_lt_iff_lt_mul hF1p, ← hFm]; exact hNF
            have hN1F : N1 < F1 := by rw [hN1]; exact Nat.mod_lt _ hF1p
            have hF1le : F1 ≤ 362880 := by rw [← hFF1]; exact Nat.le_trans (Nat.div_le_self _ _) hF9
            have d1 : (F : Int) / (q : Int) = (F1 : Int) := by rw [← hFF1]; simp
            have d2 : (F : Int).tdiv (q : Int) = (F1 : Int) := by rw [Int.tdiv_eq_ediv_of_nonneg (by omega)]; exact d1
            have d3 : (N : Int) / (F1 : Int) = (a : Int) := by rw [ha]; simp
            have d4 : (N : Int).tdiv (F1 : Int) = (a : Int) := by rw [Int.tdiv_eq_ediv_of_nonneg (by omega)]; exact d3
            have d5 : (N : Int) % (F1 : Int) = (N1 : Int) := by rw [hN1]; simp
            have d6 : (N : Int).tmod (F1 : Int) = (N1 : Int) := by rw [Int.tmod_eq_emod_of_nonneg (by omega)]; exact d5
            have hq0 : (q : Int) ≠ 0 := by omega
            have hf0 : (F1 : Int) ≠ 0 := by omega
            have hqi : (0 : Int) < (q : Int) := by omega
            have a0 : (0 : Int) ≤ (a : Int) := by omega
            have a1 : (a : Int) < (q : Int) := by omega
            have g1 : wr.cell? ⟨g, a, none⟩ = some (.int .i64 (ls.getD a 0)) := by
              have h := hL.out; rw [← hlq] at h; exact h.cell a (by omega)
            have HZ2 : Hid ((out ++ [ls.getD a 0]) ++ ordL (q - 1) (ls.eraseIdx a) N1 = R) := by
              show _ = _
              rw [← hZ.out, ordL_step hq, ← hF1, ← ha, ← hN1]; simp
            generalize ls.getD a 0 = x at g1 HZ2
            have hob : ∀ k', u9.ownBlock = some k' → w1.heap.size ≤ k' := own_block_ge hOo.out
            obtain ⟨p, hp⟩ : ∃ p, out.length = p := ⟨_, rfl⟩
            have hpq : p + q = k := by
              have h := congrArg List.length hZ.out
              have hRl : R.length = k := HRL.out
              rw [List.length_append, ordL_length, hRl] at h
              omega
            have hp9 : p ≤ 9 := by omega
            have hown : wr.ownsRow w1.heap.size 3 1 u9 p (cellsI out) := by have h := hOo.out; unfold Own at h; rw [hp] at h; exact h
            have HP : Hid (out.length = p) := hp
            have hone : ∀ u ∈ [Value.int .i64 x], u.oneCell' = true := ints_oneCell _ [x]
            have HF1 : Hid (F1 = fac (q - 1)) := hF1
            have HLQ : Hid (ls.length = q) := hlq
            clear hF1 hFF1 hFm ha hN1 hFq hZ hp hpq hlq hOo
            go_wp2_with (first | (at_builtin; refine wpList_append_own _ rfl _ _ 23 rfl w1.heap.size 3 i0 (.int .i64 0) 1 8 Try.underlying23 hi hz0 hz1 hz2 rfl (by decide) _ _ _ rfl (hown.alloc _) ⟨wr.heap.size, 0, none⟩ 1 1 [.int .i64 x] rfl rfl (cell_new1 _ _ _) hone (by unfold maxLen; omega) (by omega) (by simp; omega) ?_; intro v' w2 hown' hgrow _; have HO2 : Hid (Own w2 w1.heap.size v' (out ++ [x])) := own_push (w := wr) (v := u9) (by simpa [HP.out] using hown'); have HBB : Hid (Below w1.heap.size wr w2) := ((Below.refl _ wr).alloc hsz _).grown hgrow (by simp; omega) (fun k' e => hob k' e); clear hown' hgrow) | (go_at_call 74; refine (delete_c g q c a w.heap.size _ ls _ HLQ.out (by omega) haq rfl (ownsRow_keep hL.out (fun g' e => by cases e; exact HBB.out.block g hg3))).mono ?_; rintro e w3 ⟨rfl, hl3, hb3, hk3⟩; have HL3 : Hid (Own w3 w.heap.size (.slice (some ⟨g, 0, none⟩) (q - 1) c) (ls.eraseIdx a)) := hl3; have HB3 : Hid (Below w.heap.size w w3) := (hB.out.trans (HBB.out.mono HB1s.out)).trans hb3; have HO3 : Hid (Own w3 w1.heap.size v' (out ++ [x])) := ownsRow_keep HO2.out (fun b e => hk3 b (World.ownsRow.lt HO2.out b e).2 (by have := (World.ownsRow.lt HO2.out b e).1; omega)); have hsz3 : w1.heap.size ≤ w3.heap.size := Nat.le_trans hsz (Nat.le_trans HBB.out.size hb3.size); clear hl3 hb3 hk3))
            go_roundw
            case rel => exact ⟨q - 1, N1, F1, ls.eraseIdx a, out ++ [x], rfl, rfl, rfl, by omega, hN1F, hF1le, HF1, HL3, HO3, HZ2, HB3, hsz3⟩
            case measure => simp [lenOf]; omega
          · obtain rfl : q = 0 := by omega
            have HE : Hid (out = R) := by show _ = _; rw [← hZ.out]; simp [ordL]
            obtain ⟨a', c', hv⟩ := hOo.out.shape
            have hRl : R.length = k := HRL.out
            have hol : out.length = k := by rw [HE.out]; exact hRl
            rw [hol] at hv
            subst hv
            clear hZ hlq hFq hRl hol
            go_wp2
            refine bodyPost_ret (v := .tuple #[.slice a' k c', .bool true]) (by simp [results, Try.results28, go_sem]; try rfl) rfl ?_
            exact ⟨a', c', rfl, by rw [← HE.out]; exact hOo.out.mono HB1s.out, hB.out⟩

theorem implOrder_c (x y : Int) (w : World) (zs : List Int) (fb : Bool) (p : Nat) (hF : orderF x y = (zs, fb)) (hp : zs.length = p) :
    Calls Try.prog 28 #[.int .i64 x, .int .i64 y] w fun e w' => ∃ a' c', e = .returned (.tuple #[.slice a' p c', .bool fb]) ∧ Own w' w.heap.size (.slice a' p c') zs ∧ Below w.heap.size w w' := by
  unfold orderF at hF
  by_cases h : (0 ≤ x ∧ x ≤ 9) ∧ (0 ≤ y ∧ y < (fac x.toNat : Nat))
  · rw [if_pos h] at hF
    simp only [Prod.mk.injEq] at hF
    obtain ⟨rfl, rfl⟩ := hF
    obtain ⟨m, rfl⟩ : ∃ m : Nat, x = m := ⟨x.toNat, by omega⟩
    obtain ⟨n, rfl⟩ : ∃ n : Nat, y = n := ⟨y.toNat, by omega⟩
    simp only [Int.toNat_natCast] at *
    rw [ordL_length] at hp
    subst hp
    exact implOrder_at m n w (by omega) (by omega)
  · rw [if_neg h] at hF
    simp only [Prod.mk.injEq] at hF
    obtain ⟨rfl, rfl⟩ := hF
    simp at hp
    subst hp
    obtain ⟨r, ob, hO⟩ : ∃ r ob, ordersF x = (r, ob) := ⟨_, _, rfl⟩
    have ho := fun wx => implOrders_c x wx r ob hO
    unfold ordersF at hO
    by_cases h1 : 0 ≤ x ∧ x ≤ 9
    · rw [if_pos h1] at hO
      simp only [Prod.mk.injEq] at hO
      obtain ⟨hr, rfl⟩ := hO
      by_cases h2 : 0 ≤ y
      · have h3 : r ≤ y := by rw [← hr]; omega
        clear h h1 hr
        go_enter Try.func28, Try.ntmps28
        go_wp2_with (go_at_call 32; refine (ho _).mono ?_; clear ho; rintro e w' ⟨rfl, hw⟩; subst w')
        refine bodyPost_ret (v := .tuple #[.slice none 0 0, .bool false]) (by simp [results, Try.results28, go_sem]; try rfl) rfl ?_
        exact ⟨none, 0, rfl, World.ownsRow_nil _ _ _ _, Below.refl _ _⟩
      · have h3 : y < 0 := by omega
        clear h h1 hr h2
        go_enter Try.func28, Try.ntmps28
        go_wp2_with (go_at_call 32; refine (ho _).mono ?_; clear ho; rintro e w' ⟨rfl, hw⟩; subst w')
        refine bodyPost_ret (v := .tuple #[.slice none 0 0, .bool false]) (by simp [results, Try.results28, go_sem]; try rfl) rfl ?_
        exact ⟨none, 0, rfl, World.ownsRow_nil _ _ _ _, Below.refl _ _⟩
    · rw [if_neg h1] at hO
      simp only [Prod.mk.injEq] at hO
      obtain ⟨rfl, rfl⟩ := hO
      clear h h1
      go_enter Try.func28, Try.ntmps28
      go_wp2_with (go_at_call 32; refine (ho _).mono ?_; clear ho; rintro e w' ⟨rfl, hw⟩; subst w')
      refine bodyPost_ret (v := .tuple #[.slice none 0 0, .bool false]) (by simp [results, Try.results28, go_sem]; try rfl) rfl ?_
      exact ⟨none, 0, rfl, World.ownsRow_nil _ _ _ _, Below.refl _ _⟩

end Go.Proofs.Ytlmamlhpjakcoaa
