/- The specification's ShortestTaps. -/
import Derived.Test.YtjdfpjeeipbghaaMU3
namespace Go.Proofs.Ytjdfpjeeipbghaa
set_option linter.unusedVariables false
set_option linter.unusedSimpArgs false
open Go.RowKit

theorem fold_length : ∀ (ts l : List Int), (ts.foldl turnL l).length ≤ l.length + ts.length
  | [], l => by simp
  | t :: r, l => by
    have h1 := fold_length r (turnL l t)
    have h2 := turn_length l t
    simp only [List.foldl_cons, List.length_cons]
    omega

theorem fold_take {B l : List Int} {s : Int} {q j : Nat} (hq : B.length = q) (hj : j < q) : ((B.map (· + s)).take (j + 1)).foldl turnL l = turnL (((B.map (· + s)).take j).foldl turnL l) (B.getD j 0 + s) := by
  rw [List.take_succ_eq_append_getElem (by simp; omega), List.foldl_append]
  simp only [List.foldl_cons, List.foldl_nil, List.getElem_map, List.getD, List.getElem?_eq_getElem (show j < B.length by omega), Option.getD_some]

set_option maxHeartbeats 2000000 in
set_option maxRecDepth 1000000 in
theorem specShort_yes (ao : Option Addr) (m d : Nat) (ys : List Bool) (w : World) (hy : ys.length = m) (hm : m ≤ 40) (hs : RdB w ao ys) (zs : List Int) (L : Int) (fb : Bool) (p : Nat)
    (hF : (if goodT 0 (massey ys m).C = true then ((massey ys m).C, ((massey ys m).L : Int), true) else ([], 0, false)) = (zs, L, fb)) (hp : zs.length = p) :
    Calls Try.prog 16 #[.slice ao m d] w fun e w' => ∃ a' c', e = .returned (.tuple #[.slice a' p c', .int .i64 L, .bool fb]) ∧ Own w' w.heap.size (.slice a' p c') zs ∧ Below w.heap.size w w' := by
  obtain ⟨i0, hi, hz0, hz1, hz2⟩ := info_parts Try.infoInt
  have HY : Hid (ys.length = m) := hy
  have HS : Hid (RdB w ao ys) := hs
  have HP : Hid (zs.length = p) := hp
  have HF : Hid ((if goodT 0 (massey ys m).C = true then ((massey ys m).C, ((massey ys m).L : Int), true) else ([], 0, false)) = (zs, L, fb)) := hF
  have hd : decide ((m : Int) ≤ 40) = true := decide_eq_true (by omega)
  clear hy hs hp hF
  go_enter Try.func16, Try.ntmps16
  go_wp2_with (go_at_call 54; refine (l3Long_c _ _ _ _ (by omega)).mono ?_; rw [hd]; clear hd; rintro e w' ⟨rfl, hw⟩; subst w')
  go_loopg [5, 6, 7, 8, 18] m (fun g s5 s6 s7 s8 s18 wx => ∃ k : Nat, k + g = m ∧ s18 = .int .i64 k ∧ s7 = .int .i64 ((massey ys k).L : Int) ∧ s8 = .int .i64 ((massey ys k).s : Int) ∧ Hid (Own wx w.heap.size s5 (massey ys k).C) ∧ Hid (Own wx w.heap.size s6 (massey ys k).B) ∧ Hid (Below w.heap.size w wx))
  case atStart => exact ⟨0, by omega, rfl, rfl, rfl, World.ownsRow_nil _ _ _ _, World.ownsRow_nil _ _ _ _, Below.refl _ _⟩
  case round =>
    obtain ⟨k, hkg, rfl, rfl, rfl, hC, hBf, hB⟩ := hrel
    have hok := massey_ok ys k
    cases gk with
    | zero =>
      obtain rfl : k = m := by omega
      have k1 : ¬ (k : Int) < (k : Int) := by omega
      have HGT : Hid (goodT 0 (massey ys k).C = decide (topT (massey ys k).C ≤ 12)) := good_top hok.sc (fun t ht => (hok.c t ht).1)
      have hlc := hok.lc
      have hF := HF.out
      rw [HGT.out] at hF
      obtain ⟨a4, c4, hv4⟩ := hC.out.shape
      subst hv4
      generalize ((massey ys k).L : Int) = L0 at hF ⊢
      generalize (massey ys k).C = C at hC hF hlc HGT ⊢
      obtain ⟨q4, hq4⟩ : ∃ q, C.length = q := ⟨_, rfl⟩
      rw [hq4] at hC hlc ⊢
      have HT : Hid (Calls Try.prog 57 #[.slice a4 q4 c4] wr fun e w' => e = .returned (.int .i64 (topT C)) ∧ w' = wr) := l3Top_c a4 q4 c4 C wr hq4 (by omega) hC.out.rd'.2
      have HQ4 : Hid (C.length = q4) := hq4
      have hbs : w.heap.size ≤ wr.heap.size := hB.out.size
      generalize topT C = t at HT hF
      clear hok HGT hq4
      by_cases ht : t ≤ 12
      · have hti : ¬ (12 : Int) < t := by omega
        rw [if_pos (decide_eq_true ht)] at hF
        simp only [Prod.mk.injEq] at hF
        obtain ⟨rfl, rfl, rfl⟩ := hF
        have hqp : q4 = p := by rw [← HQ4.out, HP.out]
        subst hqp
        have hownE := own_emptyI wr w.heap.size hB.out.size #[] rfl
        rcases hC.out.form with ⟨h, h0⟩ | ⟨g4, cap4, h, _⟩
        · simp only [Value.slice.injEq] at h
          obtain ⟨rfl, rfl, rfl⟩ := h
          have HE : Hid (Own (wr.alloc (.cells #[] 3)) w.heap.size (.slice (some ⟨wr.heap.size, 0, none⟩) 0 0) C) := by show World.ownsRow _ _ _ _ _ _ _; rw [h0]; exact hownE
          have HBE : Hid (Below w.heap.size w (wr.alloc (.cells #[] 3))) := hB.out.alloc hB.out.size _
          clear h0 hownE
          go_wp2_with (go_at_call 57; refine HT.out.mono ?_; rintro e w' ⟨rfl, hw⟩; subst w')
          refine bodyPost_ret (v := .tuple #[.slice (some ⟨wr.heap.size, 0, none⟩) 0 0, .int .i64 L0, .bool true]) (by simp [results, Try.results16, go_sem]) rfl ⟨_, _, rfl, HE.out, HBE.out⟩
        · simp only [Value.slice.injEq] at h
          obtain ⟨rfl, hq1, hq2⟩ := h
          clear hq1 hq2
          have hct := cells_takeI hC.out HQ4.out (Nat.le_refl _)
          rw [List.take_of_length_le (by rw [HQ4.out]; exact Nat.le_refl _)] at hct
          have HN : Hid (∀ j u, (cellsI C)[j]? = some u → (wr.alloc (.cells #[] 3)).cell? ((⟨g4, 0, none⟩ : Addr).add j) = some u) := fun j u h => calloc (hct j u h)
          have HCL : Hid ((cellsI C).length = q4 * 1) := by show (cellsI _).length = _; rw [cellsI_length, HQ4.out]; omega
          clear hct
          go_wp2_with (first | (go_at_call 57; refine HT.out.mono ?_; rintro e w' ⟨rfl, hw⟩; subst w') | (at_builtin; refine wpList_append_own _ rfl _ _ 25 rfl w.heap.size 3 i0 (.int .i64 0) 1 8 Try.underlying25 hi hz0 hz1 hz2 rfl (by decide) _ _ _ rfl hownE ⟨g4, 0, none⟩ q4 c4 (cellsI C) rfl HCL.out HN.out (cellsI_oneCell _) (by unfold maxLen; omega) (by omega) (by simp; omega) ?_; intro v1 w1 hown1 hgrow1 _; have HO1 : Hid (Own w1 w.heap.size v1 C) := (by show World.ownsRow _ _ _ _ _ _ _; rw [HQ4.out]; simpa using hown1); have hg1 : (wr.alloc (.cells #[] 3)).grownBy w1 (some wr.heap.size) := hgrow1; have HB1 : Hid (Below w.heap.size w w1) := (hB.out.alloc hB.out.size _).grown hg1 (by simp; omega) (fun k' e => by simp at e; omega); obtain ⟨a', c', hv⟩ := HO1.out.shape; rw [HQ4.out] at hv; subst hv; clear hown1 hgrow1 hg1 hownE HN HCL))
          refine bodyPost_ret (v := .tuple #[.slice a' q4 c', .int .i64 L0, .bool true]) (by simp [results, Try.results16, go_sem]) rfl ⟨a', c', rfl, HO1.out, HB1.out⟩
      · have hti : (12 : Int) < t := by omega
        rw [if_neg (by simp [ht])] at hF
        simp only [Prod.mk.injEq] at hF
        obtain ⟨rfl, rfl, rfl⟩ := hF
        have hp0 := HP.out
        simp at hp0
        subst hp0
        clear ht
        go_wp2_with (go_at_call 57; refine HT.out.mono ?_; rintro e w' ⟨rfl, hw⟩; subst w')
        refine bodyPost_ret (v := .tuple #[.slice none 0 0, .int .i64 0, .bool false]) (by simp [results, Try.results16, go_sem]) rfl ⟨none, 0, rfl, World.ownsRow_nil _ _ _ _, hB.out⟩
    | succ g =>
      have k0 : (0 : Int) ≤ (k : Int) := by omega
      have k1 : (k : Int) < (m : Int) := by omega
      obtain ⟨b', o', hbo, hcy⟩ := HS.out.at HY.out (by omega)
      have hby := World.block_lt_of_cell? w _ (hcy k (by omega))
      have g1 : wr.cell? ⟨b', o' + k, none⟩ = some (.bool (ys.getD k false)) := by rw [hB.out.cell (p := ⟨b', o' + k, none⟩) hby]; exact hcy k (by omega)
      subst hbo
      clear hcy hby
      obtain ⟨a4, c4, hv4⟩ := hC.out.shape
      obtain ⟨a5, c5, hv5⟩ := hBf.out.shape
      subst hv4
      subst hv5
      have hM1 : ys.getD k false = nextB (massey ys k).C ys k → massey ys (k + 1) = ⟨(massey ys k).C, (massey ys k).B, (massey ys k).L, (massey ys k).s + 1⟩ := fun h => by simp only [massey]; rw [if_pos h]
      have hM2 : ys.getD k false ≠ nextB (massey ys k).C ys k → 2 * (massey ys k).L ≤ k → massey ys (k + 1) = ⟨oneOf (massey ys k).C (further (massey ys k).B (massey ys k).s) 40, (massey ys k).C, k + 1 - (massey ys k).L, 1⟩ := fun h h2 => by simp only [massey]; rw [if_neg h, if_pos h2]
      have hM3 : ys.getD k false ≠ nextB (massey ys k).C ys k → ¬ 2 * (massey ys k).L ≤ k → massey ys (k + 1) = ⟨oneOf (massey ys k).C (further (massey ys k).B (massey ys k).s) 40, (massey ys k).B, (massey ys k).L, (massey ys k).s + 1⟩ := fun h h2 => by simp only [massey]; rw [if_neg h, if_neg h2]
      generalize massey ys k = st at hC hBf hok hM1 hM2 hM3 ⊢
      obtain ⟨C, B, L0, s0⟩ := st
      have hoc := hok.c
      have hob := hok.b
      have hs1 := hok.s1
      have hs2 := hok.s2
      have hl := hok.l
      have hlc := hok.lc
      have hlb := hok.lb
      have hfo : (B.map (· + (s0 : Int))).foldl turnL (turnL C s0) = oneOf C (further B s0) 40 := fold_oneOf hok.sc hok.sb (by have := hok.s1; dsimp only at this; omega) (fun t ht => by have h1 := hok.c t ht; have h2 := hok.l; dsimp only at h1 h2; omega) (fun t ht => by have h1 := hok.b t ht; dsimp only at h1; omega) (by have := hok.s2; dsimp only at this; omega)
      dsimp only at hM1 hM2 hM3 hC hBf hoc hob hs1 hs2 hl hlc hlb ⊢
      obtain ⟨q4, hq4⟩ : ∃ q, C.length = q := ⟨_, rfl⟩
      obtain ⟨q5, hq5⟩ : ∃ q, B.length = q := ⟨_, rfl⟩
      rw [hq4] at hC hlc ⊢
      rw [hq5] at hBf hlb ⊢
      have HQ : Hid (∀ nq, Calls Try.prog 55 #[.slice (some ⟨b', o', none⟩) m d, .slice a4 q4 c4, .int .i64 k] (wr.drewN nq) fun e w' => e = .returned (.bool (nextB C ys k)) ∧ w' = wr.drewN nq) := fun nq =>
        l3Next_c a4 (some ⟨b', o', none⟩) q4 c4 m d k C ys (wr.drewN nq) hq4 HY.out (by omega) (by omega) (by omega) (hC.out.rd'.2.later (below_drewN (Below.refl _ _) nq)) (HS.out.later (below_drewN hB.out nq)) (fun t ht => by have := hoc t ht; omega)
      by_cases hxy : ys.getD k false = nextB C ys k
      · have hM := hM1 hxy
        have HM : Hid (massey ys (k + 1) = ⟨C, B, L0, s0 + 1⟩) := hM
        rw [← hxy] at HQ
        generalize ys.getD k false = x at g1 HQ
        clear hM hM1 hM2 hM3 hxy hoc hob hok hq4 hq5 hfo
        cases x
        all_goals go_wp2_with fail
        all_goals go_quiet ((go_at_call 55; exact Calls.quiet_of_same (HQ.out _)))
        all_goals go_wp2
        all_goals go_roundg g
        all_goals first | (case rel => exact ⟨k + 1, by omega, by go_num, by rw [HM.out], by rw [HM.out]; first | rfl | go_num, by rw [HM.out]; exact hC.out.later (below_drewN (Below.refl _ _) _), by rw [HM.out]; exact hBf.out.later (below_drewN (Below.refl _ _) _), below_drewN hB.out _⟩) | skip
        all_goals omega
      · have HM2 : Hid (2 * L0 ≤ k → massey ys (k + 1) = ⟨oneOf C (further B s0) 40, C, k + 1 - L0, 1⟩) := hM2 hxy
        have HM3 : Hid (¬ 2 * L0 ≤ k → massey ys (k + 1) = ⟨oneOf C (further B s0) 40, B, L0, s0 + 1⟩) := hM3 hxy
        have HFO : Hid ((B.map (· + (s0 : Int))).foldl turnL (turnL C s0) = oneOf C (further B s0) 40) := hfo
        have HOB : Hid (∀ t ∈ B, 1 ≤ t ∧ t + (s0 : Int) ≤ 41) := fun t ht => by have := hob t ht; omega
        have HQ5 : Hid (B.length = q5) := hq5
        have HQ4 : Hid (C.length = q4) := hq4
        obtain ⟨r1, hr1⟩ : ∃ r, (turnL C s0).length = r := ⟨_, rfl⟩
        have HR1 : Hid ((turnL C s0).length = r1) := hr1
        have hbs : w.heap.size ≤ wr.heap.size := hB.out.size
        generalize nextB C ys k = x at HQ hxy
        generalize ys.getD k false = y at g1 hxy
        clear hM1 hM2 hM3 hoc hob hok hq4 hq5 hfo hr1
        have HXY : Hid (y ≠ x) := hxy
        cases x <;> cases y <;> first | exact absurd rfl hxy | skip
        · clear hxy HXY
          go_wp2_with fail
          go_quiet ((go_at_call 55; exact Calls.quiet_of_same (HQ.out _)))
          go_wp2_with (go_at_call 56; refine (l3Turn_c a4 q4 c4 w.heap.size r1 s0 C _ (by omega) (hC.out.later (below_drewN (Below.refl _ _) _)) HR1.out).mono ?_; rintro e w2 ⟨a2, c2, rfl, ho2, hb2⟩; have HO2 : Hid (Own w2 w.heap.size (.slice a2 r1 c2) (turnL C s0)) := ho2.mono hbs; have HB2 : Hid (Below wr.heap.size wr w2) := (below_drewN (Below.refl _ _) _).trans hb2; clear ho2 hb2 HQ)
          obtain ⟨wo, hwo⟩ : ∃ wo : World, wo = wr := ⟨_, rfl⟩
          rw [← hwo] at hC hBf hB HB2 hbs
          clear hwo g1
          go_loopg [5, 38] q5 (fun g2 s5 s38 wy => ∃ j : Nat, j + g2 = q5 ∧ s38 = .int .i64 j ∧ Hid (Own wy w.heap.size s5 (((B.map (· + (s0 : Int))).take j).foldl turnL (turnL C s0))) ∧ Hid (Below wo.heap.size wo wy))
          case atStart => exact ⟨0, by omega, rfl, HO2, HB2⟩
          case round =>
            clear HO2 HB2
            obtain ⟨j, hjg, rfl, hO, hBy⟩ := hrel
            cases gk with
            | zero =>
              have hj : ¬ (j : Int) < (q5 : Int) := by omega
              have hjq : ((B.map (· + (s0 : Int))).take j).foldl turnL (turnL C s0) = oneOf C (further B s0) 40 := by
                rw [List.take_of_length_le (by rw [List.length_map, HQ5.out]; omega)]
                exact HFO.out
              rw [hjq] at hO
              clear hjq
              by_cases h2 : 2 * L0 ≤ k
              · have HM : Hid (massey ys (k + 1) = ⟨oneOf C (further B s0) 40, C, k + 1 - L0, 1⟩) := HM2.out h2
                have h2i : 2 * (L0 : Int) ≤ (k : Int) := by omega
                have h3i : ((k + 1 - L0 : Nat) : Int) = (k : Int) + 1 - L0 := by omega
                clear h2
                go_wp2
                go_roundg g
                case measure => omega
                case rel => exact ⟨k + 1, by omega, by go_num, by rw [HM.out]; dsimp only; rw [h3i], by rw [HM.out]; first | rfl | go_num, by rw [HM.out]; exact hO, by rw [HM.out]; exact hC.out.later hBy.out, hB.out.trans (hBy.out.mono hbs)⟩
              · have HM : Hid (massey ys (k + 1) = ⟨oneOf C (further B s0) 40, B, L0, s0 + 1⟩) := HM3.out h2
                have h2i : ¬ 2 * (L0 : Int) ≤ (k : Int) := by omega
                clear h2
                go_wp2
                go_roundg g
                case measure => omega
                case rel => exact ⟨k + 1, by omega, by go_num, by rw [HM.out], by rw [HM.out]; first | rfl | go_num, by rw [HM.out]; exact hO, by rw [HM.out]; exact hBf.out.later hBy.out, hB.out.trans (hBy.out.mono hbs)⟩
            | succ g3 =>
              have hj : (j : Int) < (q5 : Int) := by omega
              have j0 : (0 : Int) ≤ (j : Int) := by omega
              obtain ⟨b5, o5, ha5, hc5⟩ := (hBf.out.later hBy.out).rd'.2.at HQ5.out (by omega)
              have g5 := hc5 j (by omega)
              subst ha5
              have hy5 := HOB.out _ (mem_getD (show j < B.length by rw [HQ5.out]; omega))
              have HFT : Hid (((B.map (· + (s0 : Int))).take (j + 1)).foldl turnL (turnL C s0) = turnL (((B.map (· + (s0 : Int))).take j).foldl turnL (turnL C s0)) (B.getD j 0 + s0)) := fold_take HQ5.out (by omega)
              have hfl := fold_length ((B.map (· + (s0 : Int))).take j) (turnL C s0)
              rw [List.length_take, List.length_map, HQ5.out, HR1.out] at hfl
              have hrl := turn_length C s0
              rw [HR1.out, HQ4.out] at hrl
              obtain ⟨a6, c6, hv6⟩ := hO.out.shape
              subst hv6
              generalize ((B.map (· + (s0 : Int))).take j).foldl turnL (turnL C s0) = F at hO HFT hfl ⊢
              obtain ⟨q6, hq6⟩ : ∃ q, F.length = q := ⟨_, rfl⟩
              rw [hq6] at hO hfl ⊢
              generalize B.getD j 0 = z at g5 hy5 HFT
              obtain ⟨r7, hr7⟩ : ∃ r, (turnL F (z + s0)).length = r := ⟨_, rfl⟩
              have HR7 : Hid ((turnL F (z + s0)).length = r7) := hr7
              have hbw : w.heap.size ≤ wr.heap.size := Nat.le_trans hbs hBy.out.size
              have hbo : wo.heap.size ≤ wr.heap.size := hBy.out.size
              clear hc5 hq6 hr7
              go_wp2_with (go_at_call 56; refine (l3Turn_c a6 q6 c6 w.heap.size r7 (z + s0) F _ (by omega) hO.out HR7.out).mono ?_; rintro e w7 ⟨a7, c7, rfl, ho7, hb7⟩; have HO7 : Hid (Own w7 w.heap.size (.slice a7 r7 c7) (turnL F (z + s0))) := ho7.mono hbw; have HB7 : Hid (Below wo.heap.size wo w7) := hBy.out.trans (hb7.mono hbo); clear ho7 hb7)
              go_roundg g3
              case measure => omega
              case rel => exact ⟨j + 1, by omega, by go_num, by show Own _ _ _ _; rw [HFT.out]; exact HO7.out, HB7⟩
        · clear hxy HXY
          go_wp2_with fail
          go_quiet ((go_at_call 55; exact Calls.quiet_of_same (HQ.out _)))
          go_wp2_with (go_at_call 56; refine (l3Turn_c a4 q4 c4 w.heap.size r1 s0 C _ (by omega) (hC.out.later (below_drewN (Below.refl _ _) _)) HR1.out).mono ?_; rintro e w2 ⟨a2, c2, rfl, ho2, hb2⟩; have HO2 : Hid (Own w2 w.heap.size (.slice a2 r1 c2) (turnL C s0)) := ho2.mono hbs; have HB2 : Hid (Below wr.heap.size wr w2) := (below_drewN (Below.refl _ _) _).trans hb2; clear ho2 hb2 HQ)
          obtain ⟨wo, hwo⟩ : ∃ wo : World, wo = wr := ⟨_, rfl⟩
          rw [← hwo] at hC hBf hB HB2 hbs
          clear hwo g1
          go_loopg [5, 38] q5 (fun g2 s5 s38 wy => ∃ j : Nat, j + g2 = q5 ∧ s38 = .int .i64 j ∧ Hid (Own wy w.heap.size s5 (((B.map (· + (s0 : Int))).take j).foldl turnL (turnL C s0))) ∧ Hid (Below wo.heap.size wo wy))
          case atStart => exact ⟨0, by omega, rfl, HO2, HB2⟩
          case round =>
            clear HO2 HB2
            obtain ⟨j, hjg, rfl, hO, hBy⟩ := hrel
            cases gk with
            | zero =>
              have hj : ¬ (j : Int) < (q5 : Int) := by omega
              have hjq : ((B.map (· + (s0 : Int))).take j).foldl turnL (turnL C s0) = oneOf C (further B s0) 40 := by
                rw [List.take_of_length_le (by rw [List.length_map, HQ5.out]; omega)]
                exact HFO.out
              rw [hjq] at hO
              clear hjq
              by_cases h2 : 2 * L0 ≤ k
              · have HM : Hid (massey ys (k + 1) = ⟨oneOf C (further B s0) 40, C, k + 1 - L0, 1⟩) := HM2.out h2
                have h2i : 2 * (L0 : Int) ≤ (k : Int) := by omega
                have h3i : ((k + 1 - L0 : Nat) : Int) = (k : Int) + 1 - L0 := by omega
                clear h2
                go_wp2
                go_roundg g
                case measure => omega
                case rel => exact ⟨k + 1, by omega, by go_num, by rw [HM.out]; dsimp only; rw [h3i], by rw [HM.out]; first | rfl | go_num, by rw [HM.out]; exact hO, by rw [HM.out]; exact hC.out.later hBy.out, hB.out.trans (hBy.out.mono hbs)⟩
              · have HM : Hid (massey ys (k + 1) = ⟨oneOf C (further B s0) 40, B, L0, s0 + 1⟩) := HM3.out h2
                have h2i : ¬ 2 * (L0 : Int) ≤ (k : Int) := by omega
                clear h2
                go_wp2
                go_roundg g
                case measure => omega
                case rel => exact ⟨k + 1, by omega, by go_num, by rw [HM.out], by rw [HM.out]; first | rfl | go_num, by rw [HM.out]; exact hO, by rw [HM.out]; exact hBf.out.later hBy.out, hB.out.trans (hBy.out.mono hbs)⟩
            | succ g3 =>
              have hj : (j : Int) < (q5 : Int) := by omega
              have j0 : (0 : Int) ≤ (j : Int) := by omega
              obtain ⟨b5, o5, ha5, hc5⟩ := (hBf.out.later hBy.out).rd'.2.at HQ5.out (by omega)
              have g5 := hc5 j (by omega)
              subst ha5
              have hy5 := HOB.out _ (mem_getD (show j < B.length by rw [HQ5.out]; omega))
              have HFT : Hid (((B.map (· + (s0 : Int))).take (j + 1)).foldl turnL (turnL C s0) = turnL (((B.map (· + (s0 : Int))).take j).foldl turnL (turnL C s0)) (B.getD j 0 + s0)) := fold_take HQ5.out (by omega)
              have hfl := fold_length ((B.map (· + (s0 : Int))).take j) (turnL C s0)
              rw [List.length_take, List.length_map, HQ5.out, HR1.out] at hfl
              have hrl := turn_length C s0
              rw [HR1.out, HQ4.out] at hrl
              obtain ⟨a6, c6, hv6⟩ := hO.out.shape
              subst hv6
              generalize ((B.map (· + (s0 : Int))).take j).foldl turnL (turnL C s0) = F at hO HFT hfl ⊢
              obtain ⟨q6, hq6⟩ : ∃ q, F.length = q := ⟨_, rfl⟩
              rw [hq6] at hO hfl ⊢
              generalize B.getD j 0 = z at g5 hy5 HFT
              obtain ⟨r7, hr7⟩ : ∃ r, (turnL F (z + s0)).length = r := ⟨_, rfl⟩
              have HR7 : Hid ((turnL F (z + s0)).length = r7) := hr7
              have hbw : w.heap.size ≤ wr.heap.size := Nat.le_trans hbs hBy.out.size
              have hbo : wo.heap.size ≤ wr.heap.size := hBy.out.size
              clear hc5 hq6 hr7
              go_wp2_with (go_at_call 56; refine (l3Turn_c a6 q6 c6 w.heap.size r7 (z + s0) F _ (by omega) hO.out HR7.out).mono ?_; rintro e w7 ⟨a7, c7, rfl, ho7, hb7⟩; have HO7 : Hid (Own w7 w.heap.size (.slice a7 r7 c7) (turnL F (z + s0))) := ho7.mono hbw; have HB7 : Hid (Below wo.heap.size wo w7) := hBy.out.trans (hb7.mono hbo); clear ho7 hb7)
              go_roundg g3
              case measure => omega
              case rel => exact ⟨j + 1, by omega, by go_num, by show Own _ _ _ _; rw [HFT.out]; exact HO7.out, HB7⟩

theorem specShort_c (ao : Option Addr) (n c : Nat) (ys : List Bool) (w : World) (hx : ys.length = n) (hn : n ≤ 17592186044416) (hr : RdB w ao ys) (zs : List Int) (L : Int) (fb : Bool) (p : Nat) (hF : shortF ys = (zs, L, fb)) (hp : zs.length = p) :
    Calls Try.prog 16 #[.slice ao n c] w fun e w' => ∃ a' c', e = .returned (.tuple #[.slice a' p c', .int .i64 L, .bool fb]) ∧ Own w' w.heap.size (.slice a' p c') zs ∧ Below w.heap.size w w' := by
  unfold shortF at hF
  rw [hx] at hF
  by_cases h : n ≤ 40
  · rw [if_pos h] at hF
    exact specShort_yes ao n c ys w hx h hr zs L fb p hF hp
  · rw [if_neg h] at hF
    simp only [Prod.mk.injEq] at hF
    obtain ⟨rfl, rfl, rfl⟩ := hF
    simp at hp
    subst hp
    have hd : decide ((n : Int) ≤ 40) = false := decide_eq_false (by omega)
    clear hr hx h
    go_enter Try.func16, Try.ntmps16
    go_wp2_with (go_at_call 54; refine (l3Long_c _ _ _ _ (by omega)).mono ?_; rw [hd]; clear hd; rintro e w' ⟨rfl, hw⟩; subst w')
    refine bodyPost_ret (v := .tuple #[.slice none 0 0, .int .i64 0, .bool false]) (by simp [results, Try.results16, go_sem]) rfl ⟨none, 0, rfl, World.ownsRow_nil _ _ _ _, Below.refl _ _⟩

end Go.Proofs.Ytjdfpjeeipbghaa
