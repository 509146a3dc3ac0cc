/- The specification's l1Put, where the number is new, and l3Turn. -/
import Derived.Test.YtjdfpjeeipbghaaMT3
import Derived.Deep.AppendLies
namespace Go.Proofs.Ytjdfpjeeipbghaa
set_option linter.unusedVariables false
set_option linter.unusedSimpArgs false
open Go.RowKit

theorem putAt_length {l : List Int} {k : Nat} {t : Int} (hk : k ≤ l.length) : (putAt l k t).length = l.length + 1 := by
  simp [putAt]; omega

set_option maxHeartbeats 4000000 in
set_option maxRecDepth 1000000 in
theorem l1Put_some (g n cap base : Nat) (t : Int) (xs : List Int) (w : World) (hx : xs.length = n) (hn : n ≤ 1000) (ho : Own w base (.slice (some ⟨g, 0, none⟩) n cap) xs) (hnew : ¬ t ∈ xs) :
    Calls Try.prog 72 #[.slice (some ⟨g, 0, none⟩) n cap, .int .i64 t] w fun e w' => ∃ a' c', e = .returned (.slice a' (n + 1) c') ∧ Own w' w.heap.size (.slice a' (n + 1) c') (putAt xs (lowT xs t) t) ∧ Below w.heap.size w w' := by
  obtain ⟨i0, hi, hz0, hz1, hz2⟩ := info_parts Try.infoInt
  have HX : Hid (xs.length = n) := hx
  have HO : Hid (Own w base (.slice (some ⟨g, 0, none⟩) n cap) xs) := ho
  have HNEW : Hid (¬ t ∈ xs) := hnew
  have hcl := ho.capLe
  unfold maxLen at hcl
  obtain ⟨hcl1, hcl2⟩ := hcl
  have hgl : g < w.heap.size := (World.ownsRow.lt ho g rfl).2
  have HC : Hid (∀ j, j < n → w.cell? ⟨g, j, none⟩ = some (.int .i64 (xs.getD j 0))) := fun j hj => Own.cell (g := g) (cap := cap) (xs := xs) (by rw [hx]; exact ho) j (by omega)
  clear hx ho hnew
  go_enter Try.func72, Try.ntmps72
  go_wp2
  go_loop [5] (fun i => ∃ j : Nat, j ≤ n ∧ i = .int .i64 j ∧ Hid (∀ q, q < j → xs.getD q 0 < t)) (fun i => n - (intOf i).toNat)
  case atStart => exact ⟨0, Nat.zero_le _, rfl, fun q h => absurd h (by omega)⟩
  case round =>
    obtain ⟨j, hj, rfl, hall⟩ := hrel
    have j0 : (0 : Int) ≤ (j : Int) := by omega
    by_cases hgo : j < n ∧ xs.getD j 0 < t
    · obtain ⟨hlt, hx1⟩ := hgo
      have g1 := HC.out j hlt
      have j1 : (j : Int) < (n : Int) := by omega
      have HN : Hid (∀ q, q < j + 1 → xs.getD q 0 < t) := fun q hq => by
        by_cases e : q = j
        · subst e; exact hx1
        · exact hall.out q (by omega)
      generalize xs.getD j 0 = y at g1 hx1
      clear hall
      go_wp2
      go_round
      case rel => exact ⟨j + 1, by omega, by go_num, HN⟩
      case measure => simp [intOf]; omega
    · have HLOW : Hid (lowT xs t = j) := lowT_unique (by rw [HX.out]; exact hj) hall.out (by
        rw [HX.out]
        by_cases e : j = n
        · exact Or.inl e
        · right; have : ¬ xs.getD j 0 < t := fun h => hgo ⟨by omega, h⟩; omega)
      have hownE := own_emptyI w w.heap.size (Nat.le_refl _) #[] rfl
      have HN1 : Hid (∀ j1 u, (cellsI (xs.take j))[j1]? = some u → (w.alloc (.cells #[] 3)).cell? ((⟨g, 0, none⟩ : Addr).add j1) = some u) := fun j1 u h => calloc (cells_takeI HO.out HX.out hj j1 u h)
      have HCL1 : Hid ((cellsI (xs.take j)).length = j * 1) := by show (cellsI _).length = _; rw [cellsI_length, List.length_take, HX.out]; omega
      have HCL2 : Hid ((cellsI (xs.drop j)).length = (n - j) * 1) := by show (cellsI _).length = _; rw [cellsI_length, List.length_drop, HX.out]; omega
      have HPL : Hid ((putAt xs j t).length = n + 1) := by show (putAt xs j t).length = _; rw [putAt_length (by rw [HX.out]; exact hj), HX.out]
      obtain ⟨A, hA1, hA2⟩ : ∃ A : Addr, (if cap = j then (some ⟨g, 0, none⟩ : Option Addr) else some ⟨g, j, none⟩) = some A ∧ ∀ j1 u, (cellsI (xs.drop j))[j1]? = some u → w.cell? (A.add j1) = some u := by
        by_cases e : cap = j
        · refine ⟨⟨g, 0, none⟩, by rw [if_pos e], fun j1 u h => ?_⟩
          have hq : j1 < (xs.drop j).length := by
            have := (List.getElem?_eq_some_iff.1 h).1
            simpa [cellsI] using this
          rw [List.length_drop, HX.out] at hq
          omega
        · exact ⟨⟨g, j, none⟩, by rw [if_neg e], fun j1 u h => cells_dropI HO.out HX.out j1 u h⟩
      have HA2 : Hid (∀ j1 u, (cellsI (xs.drop j))[j1]? = some u → w.cell? (A.add j1) = some u) := hA2
      have jc : (j : Int) ≤ (cap : Int) := by omega
      have jn : (j : Int) ≤ (n : Int) := by omega
      clear hA2
      by_cases hlt : j < n
      · have g1 := HC.out j hlt
        have j1 : (j : Int) < (n : Int) := by omega
        have hx1 : ¬ xs.getD j 0 < t := fun h => hgo ⟨hlt, h⟩
        have hx2 : (xs.getD j 0 == t) = false := by
          rw [beq_eq_false_iff_ne]
          exact fun e => HNEW.out (by rw [← e]; exact mem_getD (by rw [HX.out]; exact hlt))
        generalize xs.getD j 0 = y at g1 hx1 hx2
        rw [if_neg (by omega)] at hA1
        obtain rfl : (⟨g, j, none⟩ : Addr) = A := by simpa using hA1
        clear hgo hall hA1
        go_wp2_with (first | (at_builtin; refine wpList_append_own _ rfl _ _ 25 rfl w.heap.size 3 i0 (.int .i64 0) 1 8 Try.underlying25 hi hz0 hz1 hz2 rfl (by decide) _ _ _ rfl hownE ⟨g, 0, none⟩ j cap (cellsI (xs.take j)) rfl HCL1.out HN1.out (cellsI_oneCell _) (by unfold maxLen; omega) (by omega) (by simp) ?_; intro v1 w1 hown1 hgrow1 _; have HO1 : Hid (w1.ownsRow w.heap.size 3 1 v1 j (cellsI (xs.take j))) := (by show World.ownsRow _ _ _ _ _ _ _; simpa using hown1); have hg1 : (w.alloc (.cells #[] 3)).grownBy w1 (some w.heap.size) := hgrow1; have HB1 : Hid (Below w.heap.size w w1) := (balloc w _).grown hg1 (by simp) (fun k' e => by simp at e; omega); have hbs1 : w.heap.size ≤ w1.heap.size := HB1.out.size; clear hown1 hgrow1 hg1 hownE HN1 HCL1) | (at_builtin; refine wpList_append_own _ rfl _ _ 25 rfl w.heap.size 3 i0 (.int .i64 0) 1 8 Try.underlying25 hi hz0 hz1 hz2 rfl (by decide) _ _ _ rfl (HO1.out.alloc _) ⟨w1.heap.size, 0, none⟩ 1 1 [.int .i64 t] rfl rfl (cell_new1 _ _ _) (ints_oneCell .i64 [t]) (by unfold maxLen; omega) (by omega) (by simp; omega) ?_; intro v2 w2 hown2 hgrow2 _; have HO2 : Hid (w2.ownsRow w.heap.size 3 1 v2 (j + 1) (cellsI (xs.take j ++ [t]))) := (by show World.ownsRow _ _ _ _ _ _ _; simpa [cellsI] using hown2); have HB2 : Hid (Below w.heap.size w w2) := (HB1.out.alloc HB1.out.size _).grown hgrow2 (by simp; omega) (fun k' e => (World.ownsRow.lt HO1.out k' e).1); have hbs2 : w.heap.size ≤ w2.heap.size := HB2.out.size; have HN2 : Hid (∀ j1 u, (cellsI (xs.drop j))[j1]? = some u → w2.cell? ((⟨g, j, none⟩ : Addr).add j1) = some u) := (fun j1 u h1 => HB2.out.cell (p := (⟨g, j, none⟩ : Addr).add j1) (by have h2 := World.block_lt_of_cell? w _ (HA2.out j1 u h1); exact h2) ▸ HA2.out j1 u h1); clear hown2 hgrow2 HO1) | (at_builtin; refine wpList_append_own _ rfl _ _ 25 rfl w.heap.size 3 i0 (.int .i64 0) 1 8 Try.underlying25 hi hz0 hz1 hz2 rfl (by decide) _ _ _ rfl HO2.out ⟨g, j, none⟩ (n - j) (cap - j) (cellsI (xs.drop j)) rfl HCL2.out HN2.out (cellsI_oneCell _) (by unfold maxLen; omega) (by omega) (by omega) ?_; intro v3 w3 hown3 hgrow3 _; have HO3 : Hid (Own w3 w.heap.size v3 (putAt xs j t)) := (by show World.ownsRow _ _ _ _ _ _ _; rw [HPL.out]; have hq : j + 1 + (n - j) = n + 1 := (by omega); rw [hq] at hown3; simpa [putAt, cellsI] using hown3); have HB3 : Hid (Below w.heap.size w w3) := HB2.out.grown hgrow3 hbs2 (fun k' e => (World.ownsRow.lt HO2.out k' e).1); obtain ⟨a', c', hv⟩ := HO3.out.shape; rw [HPL.out] at hv; subst hv; clear hown3 hgrow3))
        go_ret
        exact ⟨a', c', rfl, by rw [HLOW.out]; exact HO3.out, HB3.out⟩
      · have j1 : ¬ (j : Int) < (n : Int) := by omega
        clear hgo hall
        go_wp2_with (first | (at_builtin; refine wpList_append_own _ rfl _ _ 25 rfl w.heap.size 3 i0 (.int .i64 0) 1 8 Try.underlying25 hi hz0 hz1 hz2 rfl (by decide) _ _ _ rfl hownE ⟨g, 0, none⟩ j cap (cellsI (xs.take j)) rfl HCL1.out HN1.out (cellsI_oneCell _) (by unfold maxLen; omega) (by omega) (by simp) ?_; intro v1 w1 hown1 hgrow1 _; have HO1 : Hid (w1.ownsRow w.heap.size 3 1 v1 j (cellsI (xs.take j))) := (by show World.ownsRow _ _ _ _ _ _ _; simpa using hown1); have hg1 : (w.alloc (.cells #[] 3)).grownBy w1 (some w.heap.size) := hgrow1; have HB1 : Hid (Below w.heap.size w w1) := (balloc w _).grown hg1 (by simp) (fun k' e => by simp at e; omega); have hbs1 : w.heap.size ≤ w1.heap.size := HB1.out.size; clear hown1 hgrow1 hg1 hownE HN1 HCL1) | (at_builtin; refine wpList_append_own _ rfl _ _ 25 rfl w.heap.size 3 i0 (.int .i64 0) 1 8 Try.underlying25 hi hz0 hz1 hz2 rfl (by decide) _ _ _ rfl (HO1.out.alloc _) ⟨w1.heap.size, 0, none⟩ 1 1 [.int .i64 t] rfl rfl (cell_new1 _ _ _) (ints_oneCell .i64 [t]) (by unfold maxLen; omega) (by omega) (by simp; omega) ?_; intro v2 w2 hown2 hgrow2 _; have HO2 : Hid (w2.ownsRow w.heap.size 3 1 v2 (j + 1) (cellsI (xs.take j ++ [t]))) := (by show World.ownsRow _ _ _ _ _ _ _; simpa [cellsI] using hown2); have HB2 : Hid (Below w.heap.size w w2) := (HB1.out.alloc HB1.out.size _).grown hgrow2 (by simp; omega) (fun k' e => (World.ownsRow.lt HO1.out k' e).1); have hbs2 : w.heap.size ≤ w2.heap.size := HB2.out.size; have HN2 : Hid (∀ j1 u, (cellsI (xs.drop j))[j1]? = some u → w2.cell? (A.add j1) = some u) := (fun j1 u h1 => HB2.out.cell (p := A.add j1) (by have h2 := World.block_lt_of_cell? w _ (HA2.out j1 u h1); exact h2) ▸ HA2.out j1 u h1); clear hown2 hgrow2 HO1) | (at_builtin; refine wpList_append_own _ rfl _ _ 25 rfl w.heap.size 3 i0 (.int .i64 0) 1 8 Try.underlying25 hi hz0 hz1 hz2 rfl (by decide) _ _ _ rfl HO2.out A (n - j) (cap - j) (cellsI (xs.drop j)) rfl HCL2.out HN2.out (cellsI_oneCell _) (by unfold maxLen; omega) (by omega) (by omega) ?_; intro v3 w3 hown3 hgrow3 _; have HO3 : Hid (Own w3 w.heap.size v3 (putAt xs j t)) := (by show World.ownsRow _ _ _ _ _ _ _; rw [HPL.out]; have hq : j + 1 + (n - j) = n + 1 := (by omega); rw [hq] at hown3; simpa [putAt, cellsI] using hown3); have HB3 : Hid (Below w.heap.size w w3) := HB2.out.grown hgrow3 hbs2 (fun k' e => (World.ownsRow.lt HO2.out k' e).1); obtain ⟨a', c', hv⟩ := HO3.out.shape; rw [HPL.out] at hv; subst hv; clear hown3 hgrow3))
        go_ret
        exact ⟨a', c', rfl, by rw [HLOW.out]; exact HO3.out, HB3.out⟩

set_option maxHeartbeats 2000000 in
theorem l1Put_none (t : Int) (w : World) :
    Calls Try.prog 72 #[.slice none 0 0, .int .i64 t] w fun e w' => ∃ a' c', e = .returned (.slice a' 1 c') ∧ Own w' w.heap.size (.slice a' 1 c') [t] ∧ Below w.heap.size w w' := by
  obtain ⟨i0, hi, hz0, hz1, hz2⟩ := info_parts Try.infoInt
  have hownE := own_emptyI w w.heap.size (Nat.le_refl _) #[] rfl
  go_enter Try.func72, Try.ntmps72
  go_wp2
  refine wp_loop_rounds 1 ?_
  rw [rounds_succ]
  go_wp2_with (at_builtin; refine wpList_append_lies _ rfl _ _ 25 rfl w.heap.size 3 i0 (.int .i64 0) 1 8 Try.underlying25 hi hz0 hz1 hz2 rfl (by decide) _ _ _ rfl (hownE.alloc _) ⟨w.heap.size + 1, 0, none⟩ 1 1 [.int .i64 t] rfl rfl (by have h := cell_new1 (w.alloc (.cells #[] 3)) (.int .i64 t) 3; simpa using h) (ints_oneCell .i64 [t]) (by omega) (by unfold maxLen; omega) (by omega) (by simp; omega) _ rfl ?_; intro g2 cap2 w2 hown2 hgrow2 _ hlg; have HO2 : Hid (Own w2 w.heap.size (.slice (some ⟨g2, 0, none⟩) 1 cap2) [t]) := (by show World.ownsRow _ _ _ _ _ _ _; simpa [cellsI] using hown2); have hg2 : ((w.alloc (.cells #[] 3)).alloc (.cells #[.int .i64 t] 3)).grownBy w2 (some w.heap.size) := hgrow2; have HB2 : Hid (Below w.heap.size w w2) := (((Below.refl _ _).alloc (Nat.le_refl _) _).alloc (by simp) _).grown hg2 (by simp; omega) (fun k' e => by simp at e; omega); have hc1 : 1 ≤ cap2 := HO2.out.capLe.1; have hc0 : ¬ cap2 = 0 := (by omega); clear hown2 hgrow2 hg2 hlg hownE)
  go_ret
  exact ⟨_, _, rfl, HO2.out, HB2.out⟩

theorem filter_take {xs : List Int} {n k : Nat} {t : Int} (hx : xs.length = n) (hk : k < n) : (xs.take (k + 1)).filter (fun x => !(x == t)) = (xs.take k).filter (fun x => !(x == t)) ++ (if xs.getD k 0 = t then [] else [xs.getD k 0]) := by
  rw [List.take_succ_eq_append_getElem (by omega), List.filter_append]
  congr 1
  simp only [List.getD, List.getElem?_eq_getElem (show k < xs.length by omega), Option.getD_some, List.filter_cons, List.filter_nil]
  by_cases e : xs[k] = t
  · simp [e]
  · simp [e]

theorem turn_length (xs : List Int) (t : Int) : (turnL xs t).length ≤ xs.length + 1 := by
  unfold turnL
  split
  · have := List.length_filter_le (fun x => !(x == t)) xs; omega
  · rw [putAt_length (lowT_le xs t)]; exact Nat.le_refl _

set_option maxHeartbeats 4000000 in
theorem l3Turn_c (ao : Option Addr) (n c base p : Nat) (t : Int) (xs : List Int) (w : World) (hn : n ≤ 1000) (ho : Own w base (.slice ao n c) xs) (hp : (turnL xs t).length = p) :
    Calls Try.prog 56 #[.slice ao n c, .int .i64 t] w fun e w' => ∃ a' c', e = .returned (.slice a' p c') ∧ Own w' w.heap.size (.slice a' p c') (turnL xs t) ∧ Below w.heap.size w w' := by
  obtain ⟨i0, hi, hz0, hz1, hz2⟩ := info_parts Try.infoInt
  have hx := ho.rd'.1
  have HX : Hid (xs.length = n) := hx
  have HR : Hid (Rd w ao xs) := ho.rd'.2
  have HH : Hid (Calls Try.prog 71 #[.slice ao n c, .int .i64 t] w fun e w' => e = .returned (.bool (decide (t ∈ xs))) ∧ w' = w) := l1Has_c ao n c t xs w hx (by omega) ho.rd'.2
  by_cases ht : t ∈ xs
  · have HT : Hid (turnL xs t = xs.filter (fun x => !(x == t))) := by show turnL xs t = _; unfold turnL; rw [if_pos ht]
    rw [HT.out] at hp ⊢
    have HP : Hid ((xs.filter (fun x => !(x == t))).length = p) := hp
    rw [decide_eq_true ht] at HH
    clear hx ho ht hp HT
    go_enter Try.func56, Try.ntmps56
    go_wp2_with (go_at_call 71; refine HH.out.mono ?_; rintro e w' ⟨rfl, hw⟩; subst w')
    go_loopw [5, 17] (fun v i wr => ∃ k : Nat, k ≤ n ∧ i = .int .i64 k ∧ Hid (Own wr w.heap.size v ((xs.take k).filter (fun x => !(x == t)))) ∧ Hid (Below w.heap.size w wr)) (fun _ i _ => n - (intOf i).toNat)
    case atStart => exact ⟨0, Nat.zero_le _, rfl, World.ownsRow_nil _ _ _ _, Below.refl _ _⟩
    case round =>
      obtain ⟨k, hk, rfl, hO, hB⟩ := hrel
      by_cases hlt : k < n
      · obtain ⟨b, o, hao, hc⟩ := HR.out.at HX.out (by omega)
        have hbx := World.block_lt_of_cell? w _ (hc k hlt)
        have g1 : wr.cell? ⟨b, o + k, none⟩ = some (.int .i64 (xs.getD k 0)) := by rw [hB.out.cell (p := ⟨b, o + k, none⟩) hbx]; exact hc k hlt
        subst hao
        have HT : Hid ((xs.take (k + 1)).filter (fun x => !(x == t)) = (xs.take k).filter (fun x => !(x == t)) ++ (if xs.getD k 0 = t then [] else [xs.getD k 0])) := filter_take HX.out hlt
        have hob : ∀ k', u5.ownBlock = some k' → w.heap.size ≤ k' := own_block_ge hO.out
        have hol := List.length_filter_le (fun x => !(x == t)) (xs.take k)
        rw [List.length_take] at hol
        obtain ⟨r, hlen⟩ : ∃ r, ((xs.take k).filter (fun x => !(x == t))).length = r := ⟨_, rfl⟩
        have hr1 : r ≤ 1000 := by omega
        have HL : Hid (((xs.take k).filter (fun x => !(x == t))).length = r) := hlen
        have hown : wr.ownsRow w.heap.size 3 1 u5 r (cellsI ((xs.take k).filter (fun x => !(x == t)))) := by have h := hO.out; unfold Own at h; rw [hlen] at h; exact h
        generalize (xs.take k).filter (fun x => !(x == t)) = out at hO HL hown HT hlen
        generalize xs.getD k 0 = y at g1 HT
        have k0 : (0 : Int) ≤ (k : Int) := by omega
        have k1 : (k : Int) < (n : Int) := by omega
        clear hc hbx hlen hol
        by_cases hyt : y = t
        · have hb : (y != t) = false := by simp [hyt]
          have HE : Hid ((xs.take (k + 1)).filter (fun x => !(x == t)) = out) := by show _ = _; rw [HT.out, if_pos hyt, List.append_nil]
          clear hyt HT
          go_wp2
          go_roundw
          case rel => exact ⟨k + 1, by omega, by go_num, by show Own _ _ _ _; rw [HE.out]; exact hO.out, hB⟩
          case measure => simp [intOf]; omega
        · have hb : (y != t) = true := by rw [bne_iff_ne]; exact hyt
          have HE : Hid ((xs.take (k + 1)).filter (fun x => !(x == t)) = out ++ [y]) := by show _ = _; rw [HT.out, if_neg hyt]
          clear hyt HT
          go_wp2_with (at_builtin; refine wpList_append_own _ rfl _ _ 25 rfl w.heap.size 3 i0 (.int .i64 0) 1 8 Try.underlying25 hi hz0 hz1 hz2 rfl (by decide) _ _ _ rfl (hown.alloc _) ⟨wr.heap.size, 0, none⟩ 1 1 [.int .i64 (y)] rfl rfl (cell_new1 _ _ _) (ints_oneCell .i64 [y]) (by unfold maxLen; omega) (by omega) (by have := hB.out.size; simp; omega) ?_; intro v' w2 hown' hgrow _; have HO' : Hid (Own w2 w.heap.size v' (out ++ [y])) := own_push (w := wr) (v := u5) (by simpa [HL.out] using hown'); have HB' : Hid (Below w.heap.size w w2) := (hB.out.alloc hB.out.size _).grown hgrow (by have := hB.out.size; simp; omega) (fun k' e => hob k' e); clear hown' hgrow)
          go_roundw
          case rel => exact ⟨k + 1, by omega, by go_num, by show Own _ _ _ _; rw [HE.out]; exact HO'.out, HB'⟩
          case measure => simp [intOf]; omega
      · rw [List.take_of_length_le (by rw [HX.out]; omega)] at hO
        obtain ⟨a', c', hv⟩ := hO.out.shape
        rw [HP.out] at hv
        subst hv
        go_wp2
        go_ret
        exact ⟨a', c', rfl, hO.out, hB.out⟩
  · have HT : Hid (turnL xs t = putAt xs (lowT xs t) t) := by show turnL xs t = _; unfold turnL; rw [if_neg ht]
    have HPT : Hid (Calls Try.prog 72 #[.slice ao n c, .int .i64 t] w fun e w' => ∃ a' c', e = .returned (.slice a' p c') ∧ Own w' w.heap.size (.slice a' p c') (turnL xs t) ∧ Below w.heap.size w w') := by
      rw [HT.out] at hp
      rw [putAt_length (lowT_le xs t), hx] at hp
      subst hp
      rcases ho.form with ⟨h, h0⟩ | ⟨g, cap, h, _⟩
      · simp only [Value.slice.injEq] at h
        obtain ⟨rfl, rfl, rfl⟩ := h
        have h' := l1Put_none t w
        show Calls _ _ _ _ _
        have e : turnL xs t = [t] := by rw [HT.out, h0]; rfl
        rw [e]
        exact h'
      · simp only [Value.slice.injEq] at h
        obtain ⟨rfl, _, _⟩ := h
        show Calls _ _ _ _ _
        rw [HT.out]
        exact l1Put_some g n c base t xs w hx hn ho ht
    rw [decide_eq_false ht] at HH
    generalize turnL xs t = out at HPT ⊢
    clear hx ho ht hp HT
    go_enter Try.func56, Try.ntmps56
    go_wp2_with (first | (go_at_call 71; refine HH.out.mono ?_; rintro e w' ⟨rfl, hw⟩; subst w') | (go_at_call 72; refine HPT.out.mono ?_; rintro e w1 ⟨a1, c1, rfl, ho1, hb1⟩; have HO1 : Hid (Own w1 w.heap.size (.slice a1 p c1) out) := ho1; have HB1 : Hid (Below w.heap.size w w1) := hb1; clear ho1 hb1))
    go_ret
    exact ⟨a1, c1, rfl, HO1.out, HB1.out⟩

end Go.Proofs.Ytjdfpjeeipbghaa
