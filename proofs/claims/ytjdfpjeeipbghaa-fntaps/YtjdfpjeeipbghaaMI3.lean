/- The program's Massey: the contracts of tapsFurther, unlikeTaps, tapsByMassey and ShortestTaps. -/
import Derived.Test.YtjdfpjeeipbghaaMS3
import Derived.Test.YtjdfpjeeipbghaaCT3
import Derived.Deep.LoopGhost
namespace Go.Proofs.Ytjdfpjeeipbghaa
set_option linter.unusedVariables false
set_option linter.unusedSimpArgs false
open Go.RowKit

theorem own_oneI (w : World) (x : Int) : Own (w.alloc (.cells #[.int .i64 x] 3)) w.heap.size (.slice (some ⟨w.heap.size, 0, none⟩) 1 1) [x] := by
  have := World.ownsRow_lit (base := w.heap.size) (e := 3) (size := 1) w #[.int .i64 x] 1 (Nat.le_refl _) (by unfold maxLen; omega) (by simp)
  simpa [Own, cellsI] using this

theorem further_take {xs : List Int} {s : Int} {n k : Nat} (hx : xs.length = n) (hk : k < n) : further (xs.take (k + 1)) s = further (xs.take k) s ++ [xs.getD k 0 + s] := by
  unfold further
  rw [List.take_succ_eq_append_getElem (by omega), List.map_append, List.cons_append]
  simp only [List.map_cons, List.map_nil, List.getD, List.getElem?_eq_getElem (show k < xs.length by omega), Option.getD_some]

theorem further_length (xs : List Int) (s : Int) : (further xs s).length = xs.length + 1 := by simp [further]

set_option maxHeartbeats 2000000 in
theorem tapsFurther_c (ao : Option Addr) (n c : Nat) (s : Int) (xs : List Int) (w : World) (hx : xs.length = n) (hn : n ≤ 40) (hr : Rd w ao xs) (hs : 0 ≤ s ∧ s ≤ 100) (hall : ∀ t ∈ xs, 0 ≤ t ∧ t ≤ 100) :
    Calls Try.prog 70 #[.slice ao n c, .int .i64 s] w fun e w' => ∃ a' c', e = .returned (.slice a' (n + 1) c') ∧ Own w' w.heap.size (.slice a' (n + 1) c') (further xs s) ∧ Below w.heap.size w w' := by
  obtain ⟨i0, hi, hz0, hz1, hz2⟩ := info_parts Try.infoInt
  have HX : Hid (xs.length = n) := hx
  have HR : Hid (Rd w ao xs) := hr
  have HA : Hid (∀ t ∈ xs, 0 ≤ t ∧ t ≤ 100) := hall
  obtain ⟨hs0, hs1⟩ := hs
  clear hx hr hall
  go_enter Try.func70, Try.ntmps70
  go_wp2
  go_loopw [5, 12] (fun v i wr => ∃ k : Nat, k ≤ n ∧ i = .int .i64 k ∧ Hid (Own wr w.heap.size v (further (xs.take k) s)) ∧ Hid (Below w.heap.size w wr)) (fun _ i _ => n - (intOf i).toNat)
  case atStart => exact ⟨0, Nat.zero_le _, rfl, own_oneI w s, balloc _ _⟩
  case round =>
    obtain ⟨k, hk, rfl, hO, hB⟩ := hrel
    by_cases hlt : k < n
    · obtain ⟨b, o, hao, hc⟩ := HR.out.at HX.out (by omega)
      have hbx := World.block_lt_of_cell? w _ (hc k hlt)
      have g1 : wr.cell? ⟨b, o + k, none⟩ = some (.int .i64 (xs.getD k 0)) := by rw [hB.out.cell (p := ⟨b, o + k, none⟩) hbx]; exact hc k hlt
      subst hao
      have hx1 := HA.out _ (mem_getD (show k < xs.length by rw [HX.out]; exact hlt))
      have hob : ∀ k', u5.ownBlock = some k' → w.heap.size ≤ k' := own_block_ge hO.out
      have hlen : (further (xs.take k) s).length = k + 1 := by rw [further_length, List.length_take, HX.out]; omega
      have HL : Hid ((further (xs.take k) s).length = k + 1) := hlen
      have hown : wr.ownsRow w.heap.size 3 1 u5 (k + 1) (cellsI (further (xs.take k) s)) := by have h := hO.out; unfold Own at h; rw [hlen] at h; exact h
      have HT : Hid (further (xs.take (k + 1)) s = further (xs.take k) s ++ [xs.getD k 0 + s]) := further_take HX.out hlt
      generalize further (xs.take k) s = out at hO HL hown HT hlen
      generalize xs.getD k 0 = x at g1 hx1 HT
      have k0 : (0 : Int) ≤ (k : Int) := by omega
      have k1 : (k : Int) < (n : Int) := by omega
      clear hc hbx hlen
      go_wp2_with (at_builtin; refine wpList_append_own _ rfl _ _ 25 rfl w.heap.size 3 i0 (.int .i64 0) 1 8 Try.underlying25 hi hz0 hz1 hz2 rfl (by decide) _ _ _ rfl (hown.alloc _) ⟨wr.heap.size, 0, none⟩ 1 1 [.int .i64 (x + s)] rfl rfl (cell_new1 _ _ _) (ints_oneCell .i64 [x + s]) (by unfold maxLen; omega) (by omega) (by have := hB.out.size; simp; omega) ?_; intro v' w2 hown' hgrow _; have HO' : Hid (Own w2 w.heap.size v' (out ++ [x + s])) := own_push (w := wr) (v := u5) (by simpa [HL.out] using hown'); have HB' : Hid (Below w.heap.size w w2) := (hB.out.alloc hB.out.size _).grown hgrow (by have := hB.out.size; simp; omega) (fun k' e => hob k' e); clear hown' hgrow)
      go_roundw
      case rel => exact ⟨k + 1, by omega, by go_num, by show Own _ _ _ _; rw [HT.out]; exact HO'.out, HB'⟩
      case measure => simp [intOf]; omega
    · have he : further (xs.take k) s = further xs s := by rw [List.take_of_length_le (by rw [HX.out]; omega)]
      rw [he] at hO
      obtain ⟨a', c', hv⟩ := hO.out.shape
      rw [further_length, HX.out] at hv
      subst hv
      clear he
      go_wp2
      go_ret
      exact ⟨a', c', rfl, hO.out, hB.out⟩

set_option maxHeartbeats 4000000 in
theorem unlikeTaps_c (ao bo : Option Addr) (n c m d p : Nat) (xs ys : List Int) (w : World) (hx : xs.length = n) (hy : ys.length = m) (hn : n ≤ 17592186044416) (hm : m ≤ 17592186044416) (hr : Rd w ao xs) (hs : Rd w bo ys) (hp : (oneOf xs ys 40).length = p) :
    Calls Try.prog 69 #[.slice ao n c, .slice bo m d] w fun e w' => ∃ a' c', e = .returned (.slice a' p c') ∧ Own w' w.heap.size (.slice a' p c') (oneOf xs ys 40) ∧ Below w.heap.size w w' := by
  obtain ⟨i0, hi, hz0, hz1, hz2⟩ := info_parts Try.infoInt
  have HX : Hid (xs.length = n) := hx
  have HY : Hid (ys.length = m) := hy
  have HR : Hid (Rd w ao xs) := hr
  have HS : Hid (Rd w bo ys) := hs
  have HP : Hid ((oneOf xs ys 40).length = p) := hp
  clear hx hy hr hs hp
  go_enter Try.func69, Try.ntmps69
  go_wp2
  go_loopw [5, 6] (fun v i wr => ∃ k : Nat, k ≤ 40 ∧ i = .int .i64 ((k : Int) + 1) ∧ Hid (Own wr w.heap.size v (oneOf xs ys k)) ∧ Hid (Below w.heap.size w wr)) (fun _ i _ => 41 - (intOf i).toNat)
  case atStart => exact ⟨0, Nat.zero_le _, rfl, World.ownsRow_nil _ _ _ _, Below.refl _ _⟩
  case round =>
    obtain ⟨k, hk, rfl, hO, hB⟩ := hrel
    by_cases hlt : k < 40
    · have h40 : (k : Int) + 1 ≤ 40 := by omega
      have HQ1 : Hid (Calls Try.prog 74 #[.slice ao n c, .int .i64 ((k : Int) + 1)] wr fun e w' => e = .returned (.bool (decide ((k : Int) + 1 ∈ xs))) ∧ w' = wr) := containsInt_c ao n c xs _ wr HX.out hn (HR.out.later hB.out)
      have HQ2 : Hid (Calls Try.prog 74 #[.slice bo m d, .int .i64 ((k : Int) + 1)] wr fun e w' => e = .returned (.bool (decide ((k : Int) + 1 ∈ ys))) ∧ w' = wr) := containsInt_c bo m d ys _ wr HY.out hm (HS.out.later hB.out)
      have HT : Hid (oneOf xs ys (k + 1) = oneOf xs ys k ++ (if (!(decide ((k : Int) + 1 ∈ xs) == decide ((k : Int) + 1 ∈ ys))) = true then [(k : Int) + 1] else [])) := oneOf_succ xs ys k
      generalize decide ((k : Int) + 1 ∈ xs) = x at HQ1 HT
      generalize decide ((k : Int) + 1 ∈ ys) = y at HQ2 HT
      have hob : ∀ k', u5.ownBlock = some k' → w.heap.size ≤ k' := own_block_ge hO.out
      have hol := oneOf_length xs ys k
      obtain ⟨r, hlen⟩ : ∃ r, (oneOf xs ys k).length = r := ⟨_, rfl⟩
      rw [hlen] at hol
      have HL : Hid ((oneOf xs ys k).length = r) := hlen
      have hown : wr.ownsRow w.heap.size 3 1 u5 r (cellsI (oneOf xs ys k)) := by have h := hO.out; unfold Own at h; rw [hlen] at h; exact h
      generalize oneOf xs ys k = out at hO HL hown HT hlen
      clear hlen
      have HNO : Hid (x = y → oneOf xs ys (k + 1) = out) := fun e => by rw [HT.out, e]; simp
      have HYES : Hid (x ≠ y → oneOf xs ys (k + 1) = out ++ [(k : Int) + 1]) := fun e => by rw [HT.out]; cases x <;> cases y <;> simp at e ⊢
      clear HT
      cases x <;> cases y
      · go_wp2_with (go_at_call 74; first | (with_reducible refine HQ1.out.mono ?_; rintro e w' ⟨rfl, hw⟩; subst w') | (with_reducible refine HQ2.out.mono ?_; rintro e w' ⟨rfl, hw⟩; subst w'))
        go_roundw
        case rel => exact ⟨k + 1, by omega, by go_num, by show Own _ _ _ _; rw [HNO.out (by simp)]; exact hO.out, hB⟩
        case measure => simp [intOf]; omega
      · go_wp2_with (first | (go_at_call 74; first | (with_reducible refine HQ1.out.mono ?_; rintro e w' ⟨rfl, hw⟩; subst w') | (with_reducible refine HQ2.out.mono ?_; rintro e w' ⟨rfl, hw⟩; subst w')) | (at_builtin; refine wpList_append_own _ rfl _ _ 25 rfl w.heap.size 3 i0 (.int .i64 0) 1 8 Try.underlying25 hi hz0 hz1 hz2 rfl (by decide) _ _ _ rfl (hown.alloc _) ⟨wr.heap.size, 0, none⟩ 1 1 [.int .i64 ((k : Int) + 1)] rfl rfl (cell_new1 _ _ _) (ints_oneCell .i64 [(k : Int) + 1]) (by unfold maxLen; omega) (by omega) (by have := hB.out.size; simp; omega) ?_; intro v' w2 hown' hgrow _; have HO' : Hid (Own w2 w.heap.size v' (out ++ [(k : Int) + 1])) := own_push (w := wr) (v := u5) (by simpa [HL.out] using hown'); have HB' : Hid (Below w.heap.size w w2) := (hB.out.alloc hB.out.size _).grown hgrow (by have := hB.out.size; simp; omega) (fun k' e => hob k' e); clear hown' hgrow))
        go_roundw
        case rel => exact ⟨k + 1, by omega, by go_num, by show Own _ _ _ _; rw [HYES.out (by simp)]; exact HO'.out, HB'⟩
        case measure => simp [intOf]; omega
      · go_wp2_with (first | (go_at_call 74; first | (with_reducible refine HQ1.out.mono ?_; rintro e w' ⟨rfl, hw⟩; subst w') | (with_reducible refine HQ2.out.mono ?_; rintro e w' ⟨rfl, hw⟩; subst w')) | (at_builtin; refine wpList_append_own _ rfl _ _ 25 rfl w.heap.size 3 i0 (.int .i64 0) 1 8 Try.underlying25 hi hz0 hz1 hz2 rfl (by decide) _ _ _ rfl (hown.alloc _) ⟨wr.heap.size, 0, none⟩ 1 1 [.int .i64 ((k : Int) + 1)] rfl rfl (cell_new1 _ _ _) (ints_oneCell .i64 [(k : Int) + 1]) (by unfold maxLen; omega) (by omega) (by have := hB.out.size; simp; omega) ?_; intro v' w2 hown' hgrow _; have HO' : Hid (Own w2 w.heap.size v' (out ++ [(k : Int) + 1])) := own_push (w := wr) (v := u5) (by simpa [HL.out] using hown'); have HB' : Hid (Below w.heap.size w w2) := (hB.out.alloc hB.out.size _).grown hgrow (by have := hB.out.size; simp; omega) (fun k' e => hob k' e); clear hown' hgrow))
        go_roundw
        case rel => exact ⟨k + 1, by omega, by go_num, by show Own _ _ _ _; rw [HYES.out (by simp)]; exact HO'.out, HB'⟩
        case measure => simp [intOf]; omega
      · go_wp2_with (go_at_call 74; first | (with_reducible refine HQ1.out.mono ?_; rintro e w' ⟨rfl, hw⟩; subst w') | (with_reducible refine HQ2.out.mono ?_; rintro e w' ⟨rfl, hw⟩; subst w'))
        go_roundw
        case rel => exact ⟨k + 1, by omega, by go_num, by show Own _ _ _ _; rw [HNO.out (by simp)]; exact hO.out, hB⟩
        case measure => simp [intOf]; omega
    · obtain rfl : k = 40 := by omega
      obtain ⟨a', c', hv⟩ := hO.out.shape
      rw [HP.out] at hv
      subst hv
      go_wp2
      go_ret
      exact ⟨a', c', rfl, hO.out, hB.out⟩

set_option maxHeartbeats 8000000 in
set_option maxRecDepth 1000000 in
theorem massey_c (bo : Option Addr) (m d p : Nat) (ys : List Bool) (w : World) (hy : ys.length = m) (hm : m ≤ 40) (hs : RdB w bo ys) (hp : (massey ys m).C.length = p) (L : Int) (hL : ((massey ys m).L : Int) = L) :
    Calls Try.prog 53 #[.slice bo m d] w fun e w' => ∃ a' c', e = .returned (.tuple #[.slice a' p c', .int .i64 L]) ∧ Own w' w.heap.size (.slice a' p c') (massey ys m).C ∧ Below w.heap.size w w' := by
  have HY : Hid (ys.length = m) := hy
  have HS : Hid (RdB w bo ys) := hs
  have HP : Hid ((massey ys m).C.length = p) := hp
  have HLL : Hid (((massey ys m).L : Int) = L) := hL
  clear hy hs hp hL
  go_enter Try.func53, Try.ntmps53
  go_wp2
  go_step3
  go_wp2
  go_step3
  go_wp2
  go_loopg [4, 5, 6, 7, 13] m (fun g s4 s5 s6 s7 s13 wx => ∃ k : Nat, k + g = m ∧ s13 = .int .i64 k ∧ s6 = .int .i64 ((massey ys k).L : Int) ∧ s7 = .int .i64 ((massey ys k).s : Int) ∧ Hid (Own wx w.heap.size s4 (massey ys k).C) ∧ Hid (Own wx w.heap.size s5 (massey ys k).B) ∧ Hid (Below w.heap.size w wx))
  case atStart => exact ⟨0, by omega, rfl, rfl, rfl, World.ownsRow_nil _ _ _ _, World.ownsRow_nil _ _ _ _, Below.refl _ _⟩
  case round =>
    obtain ⟨k, hkg, rfl, rfl, rfl, hC, hBf, hB⟩ := hrel
    have hok := massey_ok ys k
    cases gk with
    | zero =>
      obtain rfl : k = m := by omega
      have k1 : ¬ (k : Int) < (k : Int) := by omega
      obtain ⟨a', c', hv⟩ := hC.out.shape
      rw [HP.out] at hv
      subst hv
      have hLL := HLL.out
      rw [hLL]
      clear hok hLL
      go_wp2
      try rw [Exit.noGoto_ret]
      refine bodyPost_ret (v := .tuple #[.slice a' p c', .int .i64 L]) (by simp [results, Try.results53, go_sem]) rfl ⟨a', c', rfl, hC.out, hB.out⟩
    | succ g =>
      have k0 : (0 : Int) ≤ (k : Int) := by omega
      have k1 : (k : Int) < (m : Int) := by omega
      obtain ⟨b', o', hbo, hcy⟩ := HS.out.at HY.out (by omega)
      have hby := World.block_lt_of_cell? w _ (hcy k (by omega))
      have g1 : wr.cell? ⟨b', o' + k, none⟩ = some (.bool (ys.getD k false)) := by rw [hB.out.cell (p := ⟨b', o' + k, none⟩) hby]; exact hcy k (by omega)
      subst hbo
      clear hcy hby
      obtain ⟨a4, c4, hv4⟩ := hC.out.shape
      obtain ⟨a5, c5, hv5⟩ := hBf.out.shape
      subst hv4
      subst hv5
      have hM1 : ys.getD k false = nextB (massey ys k).C ys k → massey ys (k + 1) = ⟨(massey ys k).C, (massey ys k).B, (massey ys k).L, (massey ys k).s + 1⟩ := fun h => by simp only [massey]; rw [if_pos h]
      have hM2 : ys.getD k false ≠ nextB (massey ys k).C ys k → 2 * (massey ys k).L ≤ k → massey ys (k + 1) = ⟨oneOf (massey ys k).C (further (massey ys k).B (massey ys k).s) 40, (massey ys k).C, k + 1 - (massey ys k).L, 1⟩ := fun h h2 => by simp only [massey]; rw [if_neg h, if_pos h2]
      have hM3 : ys.getD k false ≠ nextB (massey ys k).C ys k → ¬ 2 * (massey ys k).L ≤ k → massey ys (k + 1) = ⟨oneOf (massey ys k).C (further (massey ys k).B (massey ys k).s) 40, (massey ys k).B, (massey ys k).L, (massey ys k).s + 1⟩ := fun h h2 => by simp only [massey]; rw [if_neg h, if_neg h2]
      generalize massey ys k = st at hC hBf hok hM1 hM2 hM3 ⊢
      obtain ⟨C, B, L0, s0⟩ := st
      have hoc := hok.c
      have hob := hok.b
      have hs1 := hok.s1
      have hs2 := hok.s2
      have hl := hok.l
      have hlc := hok.lc
      have hlb := hok.lb
      dsimp only at hM1 hM2 hM3 hC hBf hoc hob hs1 hs2 hl hlc hlb ⊢
      obtain ⟨q4, hq4⟩ : ∃ q, C.length = q := ⟨_, rfl⟩
      obtain ⟨q5, hq5⟩ : ∃ q, B.length = q := ⟨_, rfl⟩
      rw [hq4] at hC hlc ⊢
      rw [hq5] at hBf hlb ⊢
      have HQ : Hid (Calls Try.prog 59 #[.slice a4 q4 c4, .slice (some ⟨b', o', none⟩) m d, .int .i64 k] wr fun e w' => e = .returned (.bool (nextB C ys k)) ∧ w' = wr) :=
        unlikeAhead_c a4 (some ⟨b', o', none⟩) q4 c4 m d k C ys wr hq4 HY.out (by omega) (by omega) (by omega) hC.out.rd'.2 (HS.out.later hB.out) (fun t ht => by have := hoc t ht; omega)
      by_cases hxy : ys.getD k false = nextB C ys k
      · have hM := hM1 hxy
        have HM : Hid (massey ys (k + 1) = ⟨C, B, L0, s0 + 1⟩) := hM
        rw [← hxy] at HQ
        generalize ys.getD k false = x at g1 HQ
        clear hM hM1 hM2 hM3 hxy hoc hob hok hq4 hq5
        cases x
        all_goals go_wp2_with (go_at_call 59; refine HQ.out.mono ?_; rintro e w' ⟨rfl, hw⟩; subst w')
        all_goals go_roundg g
        all_goals first | (case rel => exact ⟨k + 1, by omega, by go_num, by rw [HM.out], by rw [HM.out]; first | rfl | go_num, by rw [HM.out]; exact hC, by rw [HM.out]; exact hBf, hB⟩) | skip
        all_goals omega
      · have HF : Hid (Calls Try.prog 70 #[.slice a5 q5 c5, .int .i64 (s0 : Int)] wr fun e w' => ∃ a' c', e = .returned (.slice a' (q5 + 1) c') ∧ Own w' wr.heap.size (.slice a' (q5 + 1) c') (further B s0) ∧ Below wr.heap.size wr w') :=
          tapsFurther_c a5 q5 c5 s0 B wr hq5 (by omega) hBf.out.rd'.2 (by omega) (fun t ht => by have := hob t ht; omega)
        obtain ⟨q, hq⟩ : ∃ q, (oneOf C (further B s0) 40).length = q := ⟨_, rfl⟩
        have HQL : Hid ((oneOf C (further B s0) 40).length = q) := hq
        have HFL : Hid ((further B s0).length = q5 + 1) := by show (further B s0).length = _; rw [further_length, hq5]
        have HC4 : Hid (C.length = q4) := hq4
        have hbs : w.heap.size ≤ wr.heap.size := hB.out.size
        by_cases h2 : 2 * L0 ≤ k
        · have HM : Hid (massey ys (k + 1) = ⟨oneOf C (further B s0) 40, C, k + 1 - L0, 1⟩) := hM2 hxy h2
          have h2i : ¬ (k : Int) < 2 * (L0 : Int) := by omega
          have h3i : ((k + 1 - L0 : Nat) : Int) = (k : Int) + 1 - L0 := by omega
          generalize nextB C ys k = x at HQ hxy
          generalize ys.getD k false = y at g1 hxy
          generalize further B s0 = F at HF HQL HFL HM
          clear hM1 hM2 hM3 hoc hob hok hq hq4 hq5 h2
          cases x <;> cases y <;> first | exact absurd rfl hxy | skip
          all_goals clear hxy
          all_goals go_wp2_with (first | (go_at_call 59; refine HQ.out.mono ?_; rintro e w' ⟨rfl, hw⟩; subst w'; clear HQ) | (go_at_call 70; refine HF.out.mono ?_; rintro e w1 ⟨a1, c1, rfl, ho1, hb1⟩; have HO1 : Hid (Own w1 wr.heap.size (.slice a1 (q5 + 1) c1) F) := ho1; have HB1 : Hid (Below wr.heap.size wr w1) := hb1; have hbs1 : wr.heap.size ≤ w1.heap.size := hb1.size; clear ho1 hb1 HF) | (go_at_call 69; refine (unlikeTaps_c a4 a1 q4 c4 (q5 + 1) c1 q C F _ HC4.out HFL.out (by omega) (by omega) (hC.out.rd'.2.later HB1.out) HO1.out.rd'.2 HQL.out).mono ?_; rintro e w2 ⟨a2, c2, rfl, ho2, hb2⟩; have HO2 : Hid (Own w2 w.heap.size (.slice a2 q c2) (oneOf C F 40)) := ho2.mono (by omega); have HB12 : Hid (Below wr.heap.size wr w2) := HB1.out.trans (hb2.mono (by omega)); clear ho2 hb2 HO1 HB1))
          all_goals go_roundg g
          all_goals first | (case rel => exact ⟨k + 1, by omega, by go_num, by rw [HM.out]; dsimp only; rw [h3i], by rw [HM.out]; first | rfl | go_num, by rw [HM.out]; exact HO2, by rw [HM.out]; exact hC.out.later HB12.out, hB.out.trans (HB12.out.mono hbs)⟩) | skip
          all_goals omega
        · have HM : Hid (massey ys (k + 1) = ⟨oneOf C (further B s0) 40, B, L0, s0 + 1⟩) := hM3 hxy h2
          have h2i : (k : Int) < 2 * (L0 : Int) := by omega
          generalize nextB C ys k = x at HQ hxy
          generalize ys.getD k false = y at g1 hxy
          generalize further B s0 = F at HF HQL HFL HM
          clear hM1 hM2 hM3 hoc hob hok hq hq4 hq5 h2
          cases x <;> cases y <;> first | exact absurd rfl hxy | skip
          all_goals clear hxy
          all_goals go_wp2_with (first | (go_at_call 59; refine HQ.out.mono ?_; rintro e w' ⟨rfl, hw⟩; subst w'; clear HQ) | (go_at_call 70; refine HF.out.mono ?_; rintro e w1 ⟨a1, c1, rfl, ho1, hb1⟩; have HO1 : Hid (Own w1 wr.heap.size (.slice a1 (q5 + 1) c1) F) := ho1; have HB1 : Hid (Below wr.heap.size wr w1) := hb1; have hbs1 : wr.heap.size ≤ w1.heap.size := hb1.size; clear ho1 hb1 HF) | (go_at_call 69; refine (unlikeTaps_c a4 a1 q4 c4 (q5 + 1) c1 q C F _ HC4.out HFL.out (by omega) (by omega) (hC.out.rd'.2.later HB1.out) HO1.out.rd'.2 HQL.out).mono ?_; rintro e w2 ⟨a2, c2, rfl, ho2, hb2⟩; have HO2 : Hid (Own w2 w.heap.size (.slice a2 q c2) (oneOf C F 40)) := ho2.mono (by omega); have HB12 : Hid (Below wr.heap.size wr w2) := HB1.out.trans (hb2.mono (by omega)); clear ho2 hb2 HO1 HB1))
          all_goals go_roundg g
          all_goals first | (case rel => exact ⟨k + 1, by omega, by go_num, by rw [HM.out], by rw [HM.out]; first | rfl | go_num, by rw [HM.out]; exact HO2, by rw [HM.out]; exact hBf.out.later HB12.out, hB.out.trans (HB12.out.mono hbs)⟩) | skip
          all_goals omega

end Go.Proofs.Ytjdfpjeeipbghaa
