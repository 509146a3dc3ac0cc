/- Chapter 6: a poll counted, the program's side. -/
import Derived.Test.YtobomcmjilcnaaaDoorK6
namespace Go.Proofs.YtobomcmjilcnaaaDoor
set_option linter.unusedVariables false
set_option maxRecDepth 1000000
set_option linter.unusedSimpArgs false
open Go.RowKit

set_option maxHeartbeats 8000000 in
theorem implCount_c (ao : Option Addr) (n c : Nat) (xs : List Int) (bo : Option Addr) (m d : Nat) (ys : List Int) (eo : Option Addr) (r f : Nat) (zs : List Int) (w : World) (hx : xs.length = n) (hy : ys.length = m) (hz : zs.length = r) (hn : n ≤ 17592186044416) (hm : m ≤ 17592186044416) (hrl : r ≤ 17592186044416) (hr : Rd w ao xs) (hs : Rd w bo ys) (hq : Rd w eo zs) (ht : Tab w) :
    Calls Tryd.prog 8 #[.slice ao n c, .slice bo m d, .slice eo r f] w fun e w' => e = .returned (.tuple #[.int .i64 (countI xs ys zs), .bool (countB xs ys zs)]) ∧ Below w.heap.size w w' := by
  obtain ⟨i0, hi, hz0, hz1, hz2⟩ := info_parts Tryd.infoSealed
  have HX : Hid (xs.length = n) := hx
  have HY : Hid (ys.length = m) := hy
  have HZ : Hid (zs.length = r) := hz
  have HR : Hid (Rd w ao xs) := hr
  have HS : Hid (Rd w bo ys) := hs
  have HQ : Hid (Rd w eo zs) := hq
  have HI : Hid (pollOk xs ys zs = false → countI xs ys zs = 0 ∧ countB xs ys zs = false) := fun h => count_no h
  have HJ : Hid (pollOk xs ys zs = true → countI xs ys zs = logI (pollM xs ys zs) 100 ∧ countB xs ys zs = logB (pollM xs ys zs) 100) := fun h => count_yes h
  clear hx hy hz hr hs hq
  generalize countI xs ys zs = zi at HI HJ ⊢
  generalize countB xs ys zs = zb at HI HJ ⊢
  have hk := implKey_c ao n c xs w HX.out hn HR.out ht
  have HT : Hid (Tab w) := ht
  clear ht
  cases g0 : secsB xs
  · have HN : Hid (pollOk xs ys zs = false) := by show _ = _; simp only [pollOk, g0, Bool.false_and]
    rw [g0] at hk
    simp only [Bool.false_eq_true, if_false] at hk
    clear g0
    go_enter Tryd.func8, Tryd.ntmps8
    go_wp2_with fail
    refine hk.mono ?_
    clear hk
    rintro e w1 ⟨rfl, hb⟩
    have HB1 : Hid (Below w.heap.size w w1) := hb
    clear hb
    go_wp2
    refine bodyPost_ret (v := .tuple #[.int .i64 0, .bool false]) (by simp [results, Tryd.results8, go_sem]; try rfl) rfl ?_
    exact ⟨by rw [(HI.out HN.out).1, (HI.out HN.out).2], HB1.out⟩
  · have HG : Hid (secsB xs = true) := g0
    have HKm : Hid (memB (keyI xs) = true) := keyI_mem xs
    have HO : Hid (pollOk xs ys zs = (decide (m = r) && decide (m ≤ 12) && pollB (keyI xs) (ys.zip zs))) := by show _ = _; simp only [pollOk, g0, Bool.true_and, HY.out, HZ.out]
    rw [g0] at hk
    simp only [if_true] at hk
    clear g0
    by_cases h12 : 12 < m
    · have HN : Hid (pollOk xs ys zs = false) := by show _ = _; rw [HO.out, decide_eq_false (show ¬ m ≤ 12 by omega)]; simp
      have h12' : (12 : Int) < (m : Int) := by omega
      generalize keyI xs = key at hk
      go_enter Tryd.func8, Tryd.ntmps8
      go_wp2_with fail
      refine hk.mono ?_
      clear hk
      rintro e w1 ⟨rfl, hb⟩
      have HB1 : Hid (Below w.heap.size w w1) := hb
      clear hb
      go_wp2
      refine bodyPost_ret (v := .tuple #[.int .i64 0, .bool false]) (by simp [results, Tryd.results8, go_sem]; try rfl) rfl ?_
      exact ⟨by rw [(HI.out HN.out).1, (HI.out HN.out).2], HB1.out⟩
    · have h12' : ¬ (12 : Int) < (m : Int) := by omega
      by_cases hmr : m = r
      · subst hmr
        have hmm : ((m : Int) != (m : Int)) = false := by simp
        have HL : Hid (ys.length = zs.length) := HY.out.trans HZ.out.symm
        have HV : Hid (pollV xs ys zs = pollL (keyI xs) (ys.zip zs)) := rfl
        have HZL : Hid ((ys.zip zs).length = m) := by show _ = _; rw [List.length_zip, HY.out, HZ.out]; omega
        have HZG : Hid (∀ k, k < m → (ys.zip zs).getD k (0, 0) = (ys.getD k 0, zs.getD k 0)) := fun k hk => zip_getD (by rw [HY.out]; exact hk) (by rw [HZ.out]; exact hk)
        have HPf : Hid (∀ k, k < m → voteB (keyI xs) (ys.getD k 0) (zs.getD k 0) = false → pollOk xs ys zs = false) := fun k hk h => by
          rw [HO.out]
          have : pollB (keyI xs) (ys.zip zs) = false := all_out (d := (0, 0)) (by rw [HZL.out]; exact hk) (by rw [HZG.out k hk]; exact h)
          rw [this, Bool.and_false]
        have HPt : Hid ((∀ k, k < m → voteB (keyI xs) (ys.getD k 0) (zs.getD k 0) = true) → pollOk xs ys zs = true) := fun h => by
          rw [HO.out]
          have : pollB (keyI xs) (ys.zip zs) = true := all_end (d := (0, 0)) (fun j hj => by rw [HZL.out] at hj; rw [HZG.out j hj]; exact h j hj)
          rw [this, decide_eq_true (show m ≤ 12 by omega)]
          simp
        have HSn : Hid (∀ k, k < m → pollL (keyI xs) ((ys.zip zs).take (k + 1)) = pollL (keyI xs) ((ys.zip zs).take k) ++ [voteP (keyI xs) (ys.getD k 0) (zs.getD k 0)]) := fun k hk => by
          have := pollL_snoc (keyI xs) (l := ys.zip zs) (k := k) (by rw [HZL.out]; exact hk)
          rw [HZG.out k hk] at this
          exact this
        have HLn : Hid (∀ k, k ≤ m → (pollL (keyI xs) ((ys.zip zs).take k)).length = k) := fun k hk => by
          simp only [pollL, List.length_map, List.length_take, HZL.out]; omega
        have HF : Hid (addB (pollV xs ys zs) = true ∧ sealB (addX (pollV xs ys zs)) (addY (pollV xs ys zs)) = true ∧ sumOk (addX (pollV xs ys zs)) (addY (pollV xs ys zs)) (partL (addX (pollV xs ys zs)) xs) = true) := ⟨pollV_add HL.out (by rw [HY.out]; omega), pollV_sum xs ys zs, pollV_sumOk ys zs HG.out⟩
        clear HO
        go_enter Tryd.func8, Tryd.ntmps8
        obtain ⟨key, hkey⟩ : ∃ key, keyI xs = key := ⟨_, rfl⟩
        rw [hkey] at hk HV HPf HPt HSn HLn HKm
        clear hkey
        go_wp2_with fail
        refine hk.mono ?_
        clear hk
        rintro e w1 ⟨rfl, hb⟩
        have HB1 : Hid (Below w.heap.size w w1) := hb
        have HT1 : Hid (Tab w1) := HT.out.keep hb
        have HS1 : Hid (Rd w1 bo ys) := HS.out.later hb
        have HQ1 : Hid (Rd w1 eo zs) := HQ.out.later hb
        have HR1 : Hid (Rd w1 ao xs) := HR.out.later hb
        clear hb HT HS HQ HR
        go_wp2
        go_loopw [10, 38] (fun v i wr => ∃ k : Nat, k ≤ m ∧ i = .int .i64 k ∧ Hid (OwnP wr w1.heap.size v (pollL key ((ys.zip zs).take k))) ∧ Hid (Below w1.heap.size w1 wr) ∧ Hid (∀ j, j < k → voteB key (ys.getD j 0) (zs.getD j 0) = true)) (fun _ i _ => m - (intOf i).toNat)
        case atStart => exact ⟨0, Nat.zero_le _, rfl, World.ownsRow_nil _ _ _ _, Below.refl _ _, fun j h => absurd h (by omega)⟩
        case round =>
          obtain ⟨k, hk, rfl, hO, hB, hP⟩ := hrel
          by_cases hlt : k < m
          · obtain ⟨b1, o1, rfl, g1⟩ := Rd.get (k := k) (HS1.out.later hB.out) (by rw [HY.out]; exact hlt)
            obtain ⟨b2, o2, rfl, g2⟩ := Rd.get (k := k) (HQ1.out.later hB.out) (by rw [HZ.out]; exact hlt)
            have h0k : (0 : Int) ≤ (k : Int) := by omega
            have hkm : (k : Int) < (m : Int) := by omega
            have hpf := HPf.out k hlt
            have hsn := HSn.out k hlt
            have hpt : voteB key (ys.getD k 0) (zs.getD k 0) = true → ∀ j, j < k + 1 → voteB key (ys.getD j 0) (zs.getD j 0) = true := fun h j hj => by
              by_cases e : j = k
              · rw [e]; exact h
              · exact hP.out j (by omega)
            have hcv := implVote_c key (ys.getD k 0) (zs.getD k 0) wr (HT1.out.keep hB.out)
            have hvy := fun h => vote_yes (p := key) (n := ys.getD k 0) (c := zs.getD k 0) h
            have HPF : Hid (voteB key (ys.getD k 0) (zs.getD k 0) = false → pollOk xs ys zs = false) := hpf
            have HPT : Hid (voteB key (ys.getD k 0) (zs.getD k 0) = true → ∀ j, j < k + 1 → voteB key (ys.getD j 0) (zs.getD j 0) = true) := hpt
            have HSN : Hid (pollL key ((ys.zip zs).take (k + 1)) = pollL key ((ys.zip zs).take k) ++ [voteP key (ys.getD k 0) (zs.getD k 0)]) := hsn
            clear hpf hsn hpt
            cases hv : voteB key (ys.getD k 0) (zs.getD k 0)
            · have HN : Hid (pollOk xs ys zs = false) := HPF.out hv
              rw [hv] at hcv
              clear hvy hv HPF HPT HSN
              generalize voteX key (ys.getD k 0) (zs.getD k 0) = vx at hcv
              generalize voteY key (ys.getD k 0) (zs.getD k 0) = vy at hcv
              generalize ys.getD k 0 = nn at g1 hcv
              generalize zs.getD k 0 = cc at g2 hcv
              go_wp2_with fail
              refine hcv.mono ?_
              clear hcv
              rintro e w2 ⟨rfl, hb⟩
              have HB2 : Hid (Below w.heap.size w w2) := HB1.out.trans ((hB.out.trans (hb.mono hB.out.size)).mono HB1.out.size)
              clear hb
              go_wp2
              refine bodyPost_ret (v := .tuple #[.int .i64 0, .bool false]) (by simp [results, Tryd.results8, go_sem]; try rfl) rfl ?_
              exact ⟨by rw [(HI.out HN.out).1, (HI.out HN.out).2], HB2.out.alloc HB2.out.size _⟩
            · have HPN : Hid (∀ j, j < k + 1 → voteB key (ys.getD j 0) (zs.getD j 0) = true) := HPT.out hv
              rw [(hvy hv).1, (hvy hv).2, hv] at hcv
              clear hvy hv HPF HPT
              generalize voteP key (ys.getD k 0) (zs.getD k 0) = vp at hcv HSN
              generalize ys.getD k 0 = nn at g1 hcv
              generalize zs.getD k 0 = cc at g2 hcv
              obtain ⟨x, y⟩ := vp
              dsimp only at hcv
              go_wp2_with fail
              refine hcv.mono ?_
              clear hcv g1 g2
              rintro e w2 ⟨rfl, hb⟩
              have HB2 : Hid (Below w1.heap.size w1 w2) := hB.out.trans (hb.mono hB.out.size)
              have hO2 : OwnP w2 w1.heap.size u10 (pollL key ((ys.zip zs).take k)) := hO.out.later hb
              have hob : ∀ k', u10.ownBlock = some k' → w1.heap.size ≤ k' := own_block_geP hO2
              have hlen := HLn.out k hk
              have hown : (w2.alloc (Obj.cells #[Value.int .i64 x, Value.int .i64 y] 31)).ownsRow w1.heap.size 31 2 u10 k (cellsP (pollL key ((ys.zip zs).take k))) := by have h := hO2; unfold OwnP at h; rw [hlen] at h; exact h.alloc _
              have HLk : Hid ((pollL key ((ys.zip zs).take k)).length = k) := hlen
              clear hb hO2 hlen hO hB
              generalize pollL key ((ys.zip zs).take k) = out at hown HLk HSN
              go_wp2_with (at_builtin; refine wpList_append_own _ rfl _ _ 29 rfl w1.heap.size 31 i0 (.agg #[.int .i64 0, .int .i64 0]) 2 16 Tryd.underlying29 hi hz0 hz1 hz2 rfl (by decide) _ _ _ rfl (hown.alloc _) ⟨w2.heap.size + 1, 0, none⟩ 1 1 [.int .i64 x, .int .i64 y] rfl rfl (cell_new2g _ _ _ _ _ (by simp)) (cellsP_one [(x, y)]) (by unfold maxLen; omega) (by omega) (by have := HB2.out.size; simp; omega) ?_; intro v' w3 hown' hgrow _; have HO' : Hid (OwnP w3 w1.heap.size v' (out ++ [(x, y)])) := own_pushP (by rw [HLk.out]; exact hown'); have HB' : Hid (Below w1.heap.size w1 w3) := ((HB2.out.alloc HB2.out.size _).alloc (by have := HB2.out.size; simp; omega) _).grown hgrow (by have := HB2.out.size; simp; omega) (fun k' e => hob k' e); clear hown' hgrow)
              go_roundw
              case rel => exact ⟨k + 1, by omega, by go_num, by show OwnP _ _ _ _; rw [HSN.out]; exact HO'.out, HB', HPN⟩
              case measure => simp [intOf]; omega
          · obtain rfl : k = m := by omega
            have HOK : Hid (pollOk xs ys zs = true) := HPt.out hP.out
            rw [List.take_of_length_le (by rw [HZL.out]; exact Nat.le_refl _), ← HV.out] at hO
            obtain ⟨a', c', hv⟩ := hO.out.shape
            rw [show (pollV xs ys zs).length = k by rw [pollV_length HL.out]; exact HY.out] at hv
            subst hv
            have hva := fun wx a' c' (h : RdP wx a' (pollV xs ys zs)) => implVotes_c a' k c' (pollV xs ys zs) wx (by rw [pollV_length HL.out]; exact HY.out) hm h
            rw [(add_yes HF.out.1).1, (add_yes HF.out.1).2, HF.out.1] at hva
            have hpo := fun wx (h : Rd wx ao xs) => partsOpening_c ao n c xs (addX (pollV xs ys zs)) (addY (pollV xs ys zs)) wx HX.out hn h (secs_all HG.out) (addX_bd _)
            have hsu := fun wx a' c' (h : Rd wx a' (partL (addX (pollV xs ys zs)) xs)) => implSum_c (addX (pollV xs ys zs)) (addY (pollV xs ys zs)) a' n c' (partL (addX (pollV xs ys zs)) xs) 100 wx (by rw [partL_length]; exact HX.out) hn h
            rw [(sum_yes HF.out.2.2 100).1, (sum_yes HF.out.2.2 100).2, ← openI_eq] at hsu
            rw [show openI (addX (pollV xs ys zs)) (addY (pollV xs ys zs)) xs = pollM xs ys zs from rfl] at hsu
            have HVL : Hid (zi = logI (pollM xs ys zs) 100 ∧ zb = logB (pollM xs ys zs) 100) := HJ.out HOK.out
            generalize logI (pollM xs ys zs) 100 = li at hsu HVL
            generalize logB (pollM xs ys zs) 100 = lb at hsu HVL
            generalize partL (addX (pollV xs ys zs)) xs = pl at hpo hsu
            generalize addX (pollV xs ys zs) = A at hva hpo hsu
            generalize addY (pollV xs ys zs) = B at hva hpo hsu
            have H2 : Hid (∀ wx, Rd wx ao xs → Calls Tryd.prog 25 #[.slice ao n c, .agg #[.int .i64 A, .int .i64 B]] wx fun e w' => ∃ a' c', e = .returned (.slice a' n c') ∧ Own w' wx.heap.size (.slice a' n c') pl ∧ Below wx.heap.size wx w') := hpo
            have H3 : Hid (∀ wx a' c', Rd wx a' pl → Calls Tryd.prog 14 #[.agg #[.int .i64 A, .int .i64 B], .slice a' n c', .int .i64 100] wx fun e w' => e = .returned (.tuple #[.int .i64 li, .bool lb]) ∧ Below wx.heap.size wx w') := hsu
            clear hpo hsu
            go_wp2_with fail
            refine (hva _ a' c' hO.out.rd'.2).mono ?_
            clear hva
            rintro e w2 ⟨rfl, hb⟩
            have HB2 : Hid (Below w.heap.size w (w2.alloc (Obj.cells #[Value.int .i64 A, Value.int .i64 B] 31)).drew) := by
              have h2 : Below w.heap.size w w2 := HB1.out.trans ((hB.out.trans (hb.mono hB.out.size)).mono HB1.out.size)
              exact (h2.alloc h2.size _).drew
            have HR2 : Hid (Rd (w2.alloc (Obj.cells #[Value.int .i64 A, Value.int .i64 B] 31)).drew ao xs) := by
              have h2 : Below w1.heap.size w1 w2 := hB.out.trans (hb.mono hB.out.size)
              exact HR1.out.later (h2.alloc h2.size _).drew
            have HC2 : Hid (C2 (w2.alloc (Obj.cells #[Value.int .i64 A, Value.int .i64 B] 31)).drew w2.heap.size A B) := c2_new w2 A B 31 w2.heap.size rfl
            clear hb hO hB HB1 HR1 HS1 HQ1 HT1
            go_wp2_with fail
            go_region_held3 (fun w' => w'.cell? ⟨w2.heap.size, 0, none⟩ = some (.int .i64 A) ∧ w'.cell? ⟨w2.heap.size, 1, none⟩ = some (.int .i64 B)) (first | exact ⟨f0, f1⟩ | exact ⟨d0, d1⟩ | go_keep) (first
              | (go_at_call 25; refine (H2.out _ HR2.out).mono ?_; rintro e w3 ⟨a3, c3, rfl, ho, hb⟩; have HB3 : Hid (Below w.heap.size w w3) := HB2.out.trans (hb.mono HB2.out.size); have HC3 : Hid (C2 w3 w2.heap.size A B) := HC2.out.keep hb; have HO3 : Hid (Rd w3 a3 pl) := (ho.rd').2; obtain ⟨d0, d1, d2, d3⟩ := HC3.out; clear hb ho)
              | (go_at_call 14; refine (H3.out _ _ _ HO3.out).mono ?_; rintro e w4 ⟨rfl, hb⟩; have HB4 : Hid (Below w.heap.size w w4) := HB3.out.trans (hb.mono HB3.out.size); obtain ⟨f0, f1, f2, f3⟩ := HC3.out.keep hb; clear hb))
            all_goals go_wp2
            all_goals refine bodyPost_ret (v := .tuple #[.int .i64 li, .bool lb]) (by simp [results, Tryd.results8, go_sem]; try rfl) rfl ?_
            all_goals exact ⟨by rw [HVL.out.1, HVL.out.2], HB4.out⟩
      · have HN : Hid (pollOk xs ys zs = false) := by show _ = _; rw [HO.out, decide_eq_false hmr]; simp
        have hmr' : ((m : Int) != (r : Int)) = true := by rw [bne_iff_ne]; omega
        generalize keyI xs = key at hk
        clear hmr
        go_enter Tryd.func8, Tryd.ntmps8
        go_wp2_with fail
        refine hk.mono ?_
        clear hk
        rintro e w1 ⟨rfl, hb⟩
        have HB1 : Hid (Below w.heap.size w w1) := hb
        clear hb
        go_wp2
        refine bodyPost_ret (v := .tuple #[.int .i64 0, .bool false]) (by simp [results, Tryd.results8, go_sem]; try rfl) rfl ?_
        exact ⟨by rw [(HI.out HN.out).1, (HI.out HN.out).2], HB1.out⟩

end Go.Proofs.YtobomcmjilcnaaaDoor
