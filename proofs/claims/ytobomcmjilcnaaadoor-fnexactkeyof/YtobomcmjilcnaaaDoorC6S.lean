/- Chapter 6: a poll counted, the specification's side. -/
import Derived.Test.YtobomcmjilcnaaaDoorK6
import Derived.Deep.CutRange
namespace Go.Proofs.YtobomcmjilcnaaaDoor
set_option linter.unusedVariables false
set_option maxRecDepth 1000000
set_option linter.unusedSimpArgs false
open Go.RowKit
attribute [local go_sem ↓] Go.wp_at_zero Go.wp_at_succ

theorem zp_new6d {w wp : World} {t : TypeId} (hb : Below (w.alloc (Obj.cells #[Value.int .i64 0, Value.int .i64 0] t)).drew.heap.size (w.alloc (Obj.cells #[Value.int .i64 0, Value.int .i64 0] t)).drew wp) : Hid (C2 wp w.heap.size 0 0) := C2.keep (C2.drew (c2_new w 0 0 t w.heap.size rfl)) hb
theorem zp_new6 {w w1 : World} {g : Nat} {t : TypeId} (hg : g = w.heap.size) (hb : Below (w.alloc (Obj.cells #[Value.int .i64 0, Value.int .i64 0] t)).heap.size (w.alloc (Obj.cells #[Value.int .i64 0, Value.int .i64 0] t)) w1) : C2 w1 g 0 0 := (c2_new w 0 0 t g hg).keep hb

set_option maxHeartbeats 8000000 in
theorem specCount_c (ao : Option Addr) (n c : Nat) (xs : List Int) (bo : Option Addr) (m d : Nat) (ys : List Int) (eo : Option Addr) (r f : Nat) (zs : List Int) (w : World) (hx : xs.length = n) (hy : ys.length = m) (hz : zs.length = r) (hn : n ≤ 17592186044416) (hm : m ≤ 17592186044416) (hrl : r ≤ 17592186044416) (hr : Rd w ao xs) (hs : Rd w bo ys) (hq : Rd w eo zs) :
    Calls Tryd.prog 9 #[.slice ao n c, .slice bo m d, .slice eo r f] w fun e w' => e = .returned (.tuple #[.int .i64 (countI xs ys zs), .bool (countB xs ys zs)]) ∧ Below w.heap.size w w' := by
  obtain ⟨i0, hi, hz0, hz1, hz2⟩ := info_parts Tryd.infoSealed
  have HX : Hid (xs.length = n) := hx
  have HY : Hid (ys.length = m) := hy
  have HZ : Hid (zs.length = r) := hz
  have HR : Hid (Rd w ao xs) := hr
  have HS : Hid (Rd w bo ys) := hs
  have HQ : Hid (Rd w eo zs) := hq
  have HI : Hid (pollOk xs ys zs = false → countI xs ys zs = 0 ∧ countB xs ys zs = false) := fun h => count_no h
  have HJ : Hid (pollOk xs ys zs = true → countI xs ys zs = logI (pollM xs ys zs) 100 ∧ countB xs ys zs = logB (pollM xs ys zs) 100) := fun h => count_yes h
  clear hx hy hz hr hs hq
  generalize countI xs ys zs = zi at HI HJ ⊢
  generalize countB xs ys zs = zb at HI HJ ⊢
  have hk := fun wx (h : Rd wx ao xs) => l6Secrets_c ao n c xs wx HX.out hn h
  cases g0 : secsB xs
  · have HN : Hid (pollOk xs ys zs = false) := by show _ = _; simp only [pollOk, g0, Bool.false_and]
    rw [g0] at hk
    clear g0
    go_enter Tryd.func9, Tryd.ntmps9
    go_wp2_with fail
    refine (hk _ HR.out).mono ?_
    rintro e w' ⟨rfl, hw⟩
    subst w'
    go_wp2
    refine bodyPost_ret (v := .tuple #[.int .i64 0, .bool false]) (by simp [results, Tryd.results9, go_sem]; try rfl) rfl ?_
    exact ⟨by rw [(HI.out HN.out).1, (HI.out HN.out).2], Below.refl _ _⟩
  · have HG : Hid (secsB xs = true) := g0
    have hkm := keyI_mem xs
    have HKm : Hid (memB (keyI xs) = true) := hkm
    have HO : Hid (pollOk xs ys zs = (decide (m = r) && decide (m ≤ 12) && pollB (keyI xs) (ys.zip zs))) := by show _ = _; simp only [pollOk, g0, Bool.true_and, HY.out, HZ.out]
    have hky := fun wx (h : Rd wx ao xs) => l6Key_c ao n c xs wx HX.out hn h (secs_all g0)
    have hmb := fun wx => specMember_c (keyI xs) wx
    rw [hkm] at hmb
    rw [g0] at hk
    clear g0 hkm
    have H1 : Hid (∀ wx, Rd wx ao xs → Calls Tryd.prog 26 #[.slice ao n c] wx fun e w' => e = .returned (.bool true) ∧ w' = wx) := hk
    clear hk
    by_cases hmr : m = r
    · subst hmr
      have hmm : ((m : Int) != (m : Int)) = false := by simp
      by_cases h12 : 12 < m
      · have HN : Hid (pollOk xs ys zs = false) := by show _ = _; rw [HO.out, decide_eq_false (show ¬ m ≤ 12 by omega)]; simp
        have h12' : (12 : Int) < (m : Int) := by omega
        clear hky hmb
        go_enter Tryd.func9, Tryd.ntmps9
        go_wp2_with fail
        refine (H1.out _ HR.out).mono ?_
        rintro e w' ⟨rfl, hw⟩
        subst w'
        go_wp2
        refine bodyPost_ret (v := .tuple #[.int .i64 0, .bool false]) (by simp [results, Tryd.results9, go_sem]; try rfl) rfl ?_
        exact ⟨by rw [(HI.out HN.out).1, (HI.out HN.out).2], Below.refl _ _⟩
      · have h12' : ¬ (12 : Int) < (m : Int) := by omega
        have HL : Hid (ys.length = zs.length) := HY.out.trans HZ.out.symm
        have HV : Hid (pollV xs ys zs = pollL (keyI xs) (ys.zip zs)) := rfl
        have HZL : Hid ((ys.zip zs).length = m) := by show _ = _; rw [List.length_zip, HY.out, HZ.out]; omega
        have HZG : Hid (∀ k, k < m → (ys.zip zs).getD k (0, 0) = (ys.getD k 0, zs.getD k 0)) := fun k hk => zip_getD (by rw [HY.out]; exact hk) (by rw [HZ.out]; exact hk)
        have HPf : Hid (∀ k, k < m → voteB (keyI xs) (ys.getD k 0) (zs.getD k 0) = false → pollOk xs ys zs = false) := fun k hk h => by
          rw [HO.out]
          have : pollB (keyI xs) (ys.zip zs) = false := all_out (d := (0, 0)) (by rw [HZL.out]; exact hk) (by rw [HZG.out k hk]; exact h)
          rw [this, Bool.and_false]
        have HPt : Hid ((∀ k, k < m → voteB (keyI xs) (ys.getD k 0) (zs.getD k 0) = true) → pollOk xs ys zs = true) := fun h => by
          rw [HO.out]
          have : pollB (keyI xs) (ys.zip zs) = true := all_end (d := (0, 0)) (fun j hj => by rw [HZL.out] at hj; rw [HZG.out j hj]; exact h j hj)
          rw [this, decide_eq_true (show m ≤ 12 by omega)]
          simp
        have HSn : Hid (∀ k, k < m → pollL (keyI xs) ((ys.zip zs).take (k + 1)) = pollL (keyI xs) ((ys.zip zs).take k) ++ [voteP (keyI xs) (ys.getD k 0) (zs.getD k 0)]) := fun k hk => by
          have := pollL_snoc (keyI xs) (l := ys.zip zs) (k := k) (by rw [HZL.out]; exact hk)
          rw [HZG.out k hk] at this
          exact this
        have HLn : Hid (∀ k, k ≤ m → (pollL (keyI xs) ((ys.zip zs).take k)).length = k) := fun k hk => by
          simp only [pollL, List.length_map, List.length_take, HZL.out]; omega
        have HF : Hid (addB (pollV xs ys zs) = true ∧ sealB (addX (pollV xs ys zs)) (addY (pollV xs ys zs)) = true) := ⟨pollV_add HL.out (by rw [HY.out]; omega), pollV_sum xs ys zs⟩
        clear HO
        obtain ⟨key, hkey⟩ : ∃ key, keyI xs = key := ⟨_, rfl⟩
        rw [hkey] at hky hmb HV HPf HPt HSn HLn HKm
        clear hkey
        have H2 : Hid (∀ wx, Rd wx ao xs → Calls Tryd.prog 28 #[.slice ao n c] wx fun e w' => e = .returned (.int .i64 key) ∧ w' = wx) := hky
        clear hky
        go_enter Tryd.func9, Tryd.ntmps9
        go_wp2_with fail
        refine (H1.out _ HR.out).mono ?_
        rintro e w' ⟨rfl, hw⟩
        subst w'
        go_wp2_with fail
        refine (H2.out _ HR.out).mono ?_
        rintro e w' ⟨rfl, hw⟩
        subst w'
        go_wp2_with fail
        refine (hmb _).mono ?_
        clear hmb
        rintro e w' ⟨rfl, hw⟩
        subst w'
        go_wp2
        go_loopw [8, 40] (fun v i wr => ∃ k : Nat, k ≤ m ∧ i = .int .i64 k ∧ Hid (OwnP wr w.heap.size v (pollL key ((ys.zip zs).take k))) ∧ Hid (Below w.heap.size w wr) ∧ Hid (∀ j, j < k → voteB key (ys.getD j 0) (zs.getD j 0) = true)) (fun _ i _ => m - (intOf i).toNat)
        case atStart => exact ⟨0, Nat.zero_le _, rfl, World.ownsRow_nil _ _ _ _, Below.refl _ _, fun j h => absurd h (by omega)⟩
        case round =>
          obtain ⟨k, hk, rfl, hO, hB, hP⟩ := hrel
          by_cases hlt : k < m
          · obtain ⟨b1, o1, rfl, g1⟩ := Rd.get (k := k) (HS.out.later hB.out) (by rw [HY.out]; exact hlt)
            obtain ⟨b2, o2, rfl, g2⟩ := Rd.get (k := k) (HQ.out.later hB.out) (by rw [HZ.out]; exact hlt)
            have HG2 : Hid (∀ wx, Below wr.heap.size wr wx → wx.cell? ⟨b2, o2 + k, none⟩ = some (.int .i64 (zs.getD k 0))) := fun wx h => cell_keep (S := 0) h g2
            have h0k : (0 : Int) ≤ (k : Int) := by omega
            have hkm : (k : Int) < (m : Int) := by omega
            have HPF : Hid (voteB key (ys.getD k 0) (zs.getD k 0) = false → pollOk xs ys zs = false) := HPf.out k hlt
            have HPT : Hid (voteB key (ys.getD k 0) (zs.getD k 0) = true → ∀ j, j < k + 1 → voteB key (ys.getD j 0) (zs.getD j 0) = true) := fun h j hj => by
              by_cases e : j = k
              · rw [e]; exact h
              · exact hP.out j (by omega)
            have HSN : Hid (voteB key (ys.getD k 0) (zs.getD k 0) = true → pollL key ((ys.zip zs).take (k + 1)) = pollL key ((ys.zip zs).take k) ++ [(voteX key (ys.getD k 0) (zs.getD k 0), voteY key (ys.getD k 0) (zs.getD k 0))]) := fun h => by
              rw [(vote_yes h).1, (vote_yes h).2]
              exact HSn.out k hlt
            have hcv := fun wx => specVote_c key (ys.getD k 0) (zs.getD k 0) wx
            have HCV : Hid (∀ wx, Calls Tryd.prog 18 #[.int .i64 key, .int .i64 (ys.getD k 0), .int .i64 (zs.getD k 0)] wx fun e w' => e = .returned (.tuple #[.agg #[.int .i64 (voteX key (ys.getD k 0) (zs.getD k 0)), .int .i64 (voteY key (ys.getD k 0) (zs.getD k 0))], .bool (voteB key (ys.getD k 0) (zs.getD k 0))]) ∧ Below wx.heap.size wx w') := hcv
            clear hcv
            generalize voteX key (ys.getD k 0) (zs.getD k 0) = x at HCV HSN
            generalize voteY key (ys.getD k 0) (zs.getD k 0) = y at HCV HSN
            generalize voteB key (ys.getD k 0) (zs.getD k 0) = vb at HCV HSN HPF HPT
            generalize ys.getD k 0 = nn at g1 HCV
            generalize zs.getD k 0 = cc at g2 HCV HG2
            have HRk : Hid (∀ wx, Below wr.heap.size wr wx → Rd wx ao xs) := fun wx h => (HR.out.later hB.out).later h
            go_upto_region 7 with fail
            go_cut [11, 12] from 42 to 62 (fun ub uv wx => ∃ (gz : Nat), ub = .pointer (some ⟨gz, 0, none⟩) ∧ uv = .bool vb ∧ Hid (C2 wx gz x y) ∧ Hid (Below wr.heap.size wr wx))
            case first =>
              go_region_held3 (fun w' => w'.cell? ⟨b2, o2 + k, none⟩ = some (.int .i64 cc)) (first | exact HG2.out _ (by repeat (first | exact HBp.out | exact Below.refl _ _ | refine Below.drew ?_ | refine Below.alloc ?_ (by first | omega | (simp; done) | (simp; omega)) _ | refine Below.setCell ?_ (by first | omega | (simp; done) | (simp; omega)) _)) | go_keep) (first
                | (go_at_call 28; refine (H2.out _ (HRk.out _ (by repeat (first | exact Below.refl _ _ | refine Below.drew ?_ | refine Below.alloc ?_ (by first | omega | (simp; done) | (simp; omega)) _)))).mono ?_; rintro e w' ⟨rfl, hw⟩; subst w')
                | (go_at_call 18; refine (HCV.out _).mono ?_; rintro e wp ⟨rfl, hb⟩; have HBp : Hid (Below wr.heap.size wr wp) := (Below.trans (by repeat (first | exact Below.refl _ _ | refine Below.drew ?_ | refine Below.alloc ?_ (by first | omega | (simp; done) | (simp; omega)) _)) (hb.mono (by first | exact Nat.le_refl _ | (simp; done) | (simp; omega)))); (try have Zp : Hid (C2 wp wr.heap.size 0 0) := (by first | with_reducible exact zp_new6d hb | with_reducible exact zp_new6 rfl hb)); have zp : wr.heap.size ≤ wp.heap.size := HBp.out.size; have zq := hb.size; (try simp at zq); obtain ⟨hcp, hfp⟩ := bcell hb; (try simp at hcp); (try simp at hfp); (try (have zz : wr.heap.size < wp.heap.size := by omega)); clear hb))
              all_goals go_wp2_with fail
              all_goals go_meet
              all_goals go_light
              all_goals first
                | exact ⟨wp.heap.size, rfl, rfl, (by show C2 _ _ _ _; repeat (first | with_reducible exact c2_new _ _ _ _ _ (by first | rfl | simp) | refine C2.drew ?_)), (by show Below _ _ _; repeat (first | with_reducible exact HBp.out | refine Below.drew ?_ | refine Below.alloc ?_ (by first | omega | (simp; done) | (simp; omega)) _ | refine Below.setCell ?_ (by first | omega | (simp; done) | (simp; omega)) _))⟩
                | exact ⟨wr.heap.size, rfl, rfl, C2.set Zp.out _ _, (by show Below _ _ _; repeat (first | with_reducible exact HBp.out | refine Below.drew ?_ | refine Below.alloc ?_ (by first | omega | (simp; done) | (simp; omega)) _ | refine Below.setCell ?_ (by first | omega | (simp; done) | (simp; omega)) _))⟩
            case rest =>
              obtain ⟨gz, rfl, rfl, HZC, HBc⟩ := hcut
              obtain ⟨w2, rfl⟩ : ∃ w2 : World, w2 = wc := ⟨_, rfl⟩
              have hO2 : OwnP w2 w.heap.size u8 (pollL key ((ys.zip zs).take k)) := hO.out.later HBc.out
              have HB2 : Hid (Below w.heap.size w w2) := hB.out.trans (HBc.out.mono hB.out.size)
              obtain ⟨c0, c1, c2, c3⟩ := HZC.out
              clear g1 g2 HBc
              cases vb
              · have HN : Hid (pollOk xs ys zs = false) := HPF.out rfl
                clear hO2
                go_wp2
                refine bodyPost_ret (v := .tuple #[.int .i64 0, .bool false]) (by simp [results, Tryd.results9, go_sem]; try rfl) rfl ?_
                exact ⟨by rw [(HI.out HN.out).1, (HI.out HN.out).2], HB2.out⟩
              · have HPN : Hid (∀ j, j < k + 1 → voteB key (ys.getD j 0) (zs.getD j 0) = true) := HPT.out rfl
                have HSM : Hid (pollL key ((ys.zip zs).take (k + 1)) = pollL key ((ys.zip zs).take k) ++ [(x, y)]) := HSN.out rfl
                have hob : ∀ k', u8.ownBlock = some k' → w.heap.size ≤ k' := own_block_geP hO2
                have hlen := HLn.out k hk
                have hown : w2.ownsRow w.heap.size 31 2 u8 k (cellsP (pollL key ((ys.zip zs).take k))) := by have h := hO2; unfold OwnP at h; rw [hlen] at h; exact h
                have HLk : Hid ((pollL key ((ys.zip zs).take k)).length = k) := hlen
                clear hO2 hlen hO hB HPF HPT HSN
                generalize pollL key ((ys.zip zs).take k) = out at hown HLk HSM
                go_wp2_with (at_builtin; refine wpList_append_own _ rfl _ _ 29 rfl w.heap.size 31 i0 (.agg #[.int .i64 0, .int .i64 0]) 2 16 Tryd.underlying29 hi hz0 hz1 hz2 rfl (by decide) _ _ _ rfl (hown.alloc _) ⟨w2.heap.size, 0, none⟩ 1 1 [.int .i64 x, .int .i64 y] rfl rfl (cell_new2g _ _ _ _ _ (by simp)) (cellsP_one [(x, y)]) (by unfold maxLen; omega) (by omega) (by have := HB2.out.size; simp; omega) ?_; intro v' w3 hown' hgrow _; have HO' : Hid (OwnP w3 w.heap.size v' (out ++ [(x, y)])) := own_pushP (by rw [HLk.out]; exact hown'); have HB' : Hid (Below w.heap.size w w3) := (HB2.out.alloc HB2.out.size _).grown hgrow (by have := HB2.out.size; simp; omega) (fun k' e => hob k' e); clear hown' hgrow)
                go_roundw
                case rel => exact ⟨k + 1, by omega, by go_num, by show OwnP _ _ _ _; rw [HSM.out]; exact HO'.out, HB', HPN⟩
                case measure => simp [intOf]; omega
          · obtain rfl : k = m := by omega
            have HOK : Hid (pollOk xs ys zs = true) := HPt.out hP.out
            rw [List.take_of_length_le (by rw [HZL.out]; exact Nat.le_refl _), ← HV.out] at hO
            obtain ⟨a', c', hv⟩ := hO.out.shape
            rw [show (pollV xs ys zs).length = k by rw [pollV_length HL.out]; exact HY.out] at hv
            subst hv
            have hva := fun wx a' c' (h : RdP wx a' (pollV xs ys zs)) => specVotes_c a' k c' (pollV xs ys zs) wx (by rw [pollV_length HL.out]; exact HY.out) hm h
            rw [(add_yes HF.out.1).1, (add_yes HF.out.1).2, HF.out.1] at hva
            have hal := fun wx (h : Rd wx ao xs) => specAll_c ao n c xs (addX (pollV xs ys zs)) (addY (pollV xs ys zs)) wx HX.out hn h
            have hok : allOk (addX (pollV xs ys zs)) (addY (pollV xs ys zs)) xs = true := by simp only [allOk, HG.out, HF.out.2, Bool.and_self]
            have hai : allI (addX (pollV xs ys zs)) (addY (pollV xs ys zs)) xs = pollM xs ys zs := by simp only [allI, hok, if_true]; rfl
            rw [hok, hai] at hal
            have hlg := fun wx => specLog_c (pollM xs ys zs) 100 wx
            have HVL : Hid (zi = logI (pollM xs ys zs) 100 ∧ zb = logB (pollM xs ys zs) 100) := HJ.out HOK.out
            clear hok hai
            generalize logI (pollM xs ys zs) 100 = li at hlg HVL
            generalize logB (pollM xs ys zs) 100 = lb at hlg HVL
            generalize pollM xs ys zs = pm at hal hlg
            generalize addX (pollV xs ys zs) = A at hva hal
            generalize addY (pollV xs ys zs) = B at hva hal
            go_wp2_with fail
            refine (hva _ a' c' hO.out.rd'.2).mono ?_
            clear hva
            rintro e w2 ⟨rfl, hb⟩
            have HB2 : Hid (Below w.heap.size w w2) := hB.out.trans (hb.mono hB.out.size)
            clear hb hO hB
            go_wp2_with fail
            refine (hal _ (HR.out.later (HB2.out.alloc HB2.out.size _))).mono ?_
            clear hal
            rintro e w3 ⟨rfl, hb⟩
            have HB3 : Hid (Below w.heap.size w w3) := (HB2.out.alloc HB2.out.size _).trans (hb.mono (by have := HB2.out.size; simp; omega))
            clear hb
            go_wp2_with fail
            refine (hlg _).mono ?_
            clear hlg
            rintro e w' ⟨rfl, hw⟩
            subst w'
            go_wp2
            refine bodyPost_ret (v := .tuple #[.int .i64 li, .bool lb]) (by simp [results, Tryd.results9, go_sem]; try rfl) rfl ?_
            exact ⟨by rw [HVL.out.1, HVL.out.2], HB3.out⟩
    · have HN : Hid (pollOk xs ys zs = false) := by show _ = _; rw [HO.out, decide_eq_false hmr]; simp
      have hmr' : ((m : Int) != (r : Int)) = true := by rw [bne_iff_ne]; omega
      clear hmr hky hmb
      go_enter Tryd.func9, Tryd.ntmps9
      go_wp2_with fail
      refine (H1.out _ HR.out).mono ?_
      rintro e w' ⟨rfl, hw⟩
      subst w'
      go_wp2
      refine bodyPost_ret (v := .tuple #[.int .i64 0, .bool false]) (by simp [results, Tryd.results9, go_sem]; try rfl) rfl ?_
      exact ⟨by rw [(HI.out HN.out).1, (HI.out HN.out).2], Below.refl _ _⟩

end Go.Proofs.YtobomcmjilcnaaaDoor
