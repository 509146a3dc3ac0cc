/- The law FnPoll, walked: true at every two texts where the table of squares is laid. -/
import Derived.Test.YtobomcmjilcnaaaDoorC6I
import Derived.Test.YtobomcmjilcnaaaDoorC6S
import Derived.Test.YtobomcmjilcnaaaDoorD6P
import Derived.Test.YtobomcmjilcnaaaDoorF6P
namespace Go.Proofs.YtobomcmjilcnaaaDoor
set_option linter.unusedVariables false
set_option maxRecDepth 1000000
set_option linter.unusedSimpArgs false
open Go.RowKit

set_option maxHeartbeats 16000000 in
set_option maxRecDepth 1000000 in
theorem lawFnPoll_c (ao : Option Addr) (n c : Nat) (bo : Option Addr) (m d : Nat) (w : World) (hn : n ≤ 9223372036854775807) (h1 : CodeOk w w.heap.size ao n) (hm : m ≤ 9223372036854775807) (h2 : CodeOk w w.heap.size bo m) (ht : Tab w) :
    Calls Tryd.prog 3 #[.slice ao n c, .slice bo m d] w fun e w' => e = .returned (.bool true) ∧ Below w.heap.size w w' := by
  by_cases hl : 1048576 < wrap64 ((n : Int) + (m : Int))
  · clear h1 h2 ht
    go_enter Tryd.func3, Tryd.ntmps3
    go_wp2
    go_ret
    exact ⟨rfl, Below.refl _ _⟩
  obtain ⟨i0, hi, hz0, hz1, hz2⟩ := info_parts Tryd.infoSealed
  obtain ⟨j0, hj, hy0, hy1, hy2⟩ := info_parts Tryd.infoInt
  have HN : Hid (CodeOk w w.heap.size ao n) := h1
  have HM : Hid (CodeOk w w.heap.size bo m) := h2
  have HT : Hid (Tab w) := ht
  clear h1 h2 ht
  go_enter Tryd.func3, Tryd.ntmps3
  go_wp2_with fail
  refine (drawCountPoll_c ao n c w hn HN.out).mono ?_
  rintro e w1 ⟨a1, q1, c1, xs, a2, q2, c2, ys, a3, q3, c3, zs, rfl, hq1, hq2, hq3, hx, hy, hz, rx, ry, rz, hb⟩
  have HB1 : Hid (Below w.heap.size w w1) := hb
  have HX : Hid (xs.length = q1) := hx
  have HY : Hid (ys.length = q2) := hy
  have HZ : Hid (zs.length = q3) := hz
  have HR1 : Hid (Rd w1 a1 xs ∧ Rd w1 a2 ys ∧ Rd w1 a3 zs) := ⟨rx, ry, rz⟩
  clear hx hy hz rx ry rz hb HN
  have hci := implCount_c a1 q1 c1 xs a2 q2 c2 ys a3 q3 c3 zs w1 HX.out HY.out HZ.out (by omega) (by omega) (by omega) HR1.out.1 HR1.out.2.1 HR1.out.2.2 (HT.out.keep HB1.out)
  have hcs := fun wx h1 h2 h3 => specCount_c a1 q1 c1 xs a2 q2 c2 ys a3 q3 c3 zs wx HX.out HY.out HZ.out (by omega) (by omega) (by omega) h1 h2 h3
  have HCN : Hid (countB xs ys zs = true → countI xs ys zs = logI (pollM xs ys zs) 100 ∧ pollOk xs ys zs = true) := fun h => ⟨(count_yes (count_ok h)).1, count_ok h⟩
  generalize countI xs ys zs = ci at hci hcs HCN
  generalize countB xs ys zs = cb at hci hcs HCN
  have eci : (ci != ci) = false := by simp
  have ecb : (cb != cb) = false := by simp
  have HCS : Hid (∀ wx, Rd wx a1 xs → Rd wx a2 ys → Rd wx a3 zs → Calls Tryd.prog 9 #[.slice a1 q1 c1, .slice a2 q2 c2, .slice a3 q3 c3] wx fun e w' => e = .returned (.tuple #[.int .i64 ci, .bool cb]) ∧ Below wx.heap.size wx w') := hcs
  clear hcs
  go_wp2_with fail
  refine hci.mono ?_
  clear hci
  rintro e w2 ⟨rfl, hb⟩
  have HB2 : Hid (Below w.heap.size w w2) := HB1.out.trans (hb.mono HB1.out.size)
  have HR2 : Hid (Rd w2 a1 xs ∧ Rd w2 a2 ys ∧ Rd w2 a3 zs) := ⟨HR1.out.1.later hb, HR1.out.2.1.later hb, HR1.out.2.2.later hb⟩
  clear hb HR1 HB1
  go_wp2_with fail
  refine (HCS.out _ HR2.out.1 HR2.out.2.1 HR2.out.2.2).mono ?_
  rintro e w3 ⟨rfl, hb⟩
  have HB3 : Hid (Below w.heap.size w w3) := HB2.out.trans (hb.mono HB2.out.size)
  have HR3 : Hid (Rd w3 a1 xs ∧ Rd w3 a2 ys ∧ Rd w3 a3 zs) := ⟨HR2.out.1.later hb, HR2.out.2.1.later hb, HR2.out.2.2.later hb⟩
  clear hb HR2 HB2 HCS
  cases cb
  · have HB := HB3
    clear HB3
    have HBx0 : Hid (Below w.heap.size w w3) := HB
    go_wp2_with fail
    refine (drawKeyOf_c bo m d _ hm (HM.out.later HBx0.out HBx0.out.size)).mono ?_
    rintro e wx1 ⟨ka, kq, kc, kl, rfl, hkq, hkl, hkr, hb⟩
    have HBx1 : Hid (Below w.heap.size w wx1) := HBx0.out.trans (hb.mono HBx0.out.size)
    have HKL : Hid (kl.length = kq) := hkl
    have HKR : Hid (Rd wx1 ka kl) := hkr
    clear hb hkl hkr
    have hki := implKey_c ka kq kc kl wx1 HKL.out (by omega) HKR.out (HT.out.keep HBx1.out)
    have hks := fun wx h => specKey_c ka kq kc kl wx HKL.out (by omega) h
    generalize (if secsB kl = true then keyI kl else 0) = kv at hki hks
    generalize secsB kl = kb at hki hks
    have ekb : (kb == kb) = true := by simp
    have ekv : (kv == kv) = true := by simp
    have HKS : Hid (∀ wx, Rd wx ka kl → Calls Tryd.prog 16 #[.slice ka kq kc] wx fun e w' => e = .returned (.tuple #[.int .i64 kv, .bool kb]) ∧ w' = wx) := hks
    clear hks
    go_wp2_with fail
    refine hki.mono ?_
    clear hki
    rintro e wx2 ⟨rfl, hb⟩
    have HBx2 : Hid (Below w.heap.size w wx2) := HBx1.out.trans (hb.mono HBx1.out.size)
    have HKR2 : Hid (Rd wx2 ka kl) := HKR.out.later hb
    clear hb HKR
    go_wp2_with fail
    refine (HKS.out _ HKR2.out).mono ?_
    rintro e w' ⟨rfl, hw⟩
    subst w'
    go_wp2_with fail
    refine (drawCastVote_c bo m d _ hm (HM.out.later HBx2.out HBx2.out.size)).mono ?_
    rintro e wx3 ⟨v1, v2, v3, rfl, hb⟩
    have HBx3 : Hid (Below w.heap.size w wx3) := HBx2.out.trans (hb.mono HBx2.out.size)
    clear hb
    have hvi := implVote_c v1 v2 v3 wx3 (HT.out.keep HBx3.out)
    have hvs := fun wx => specVote_c v1 v2 v3 wx
    generalize voteX v1 v2 v3 = vx at hvi hvs
    generalize voteY v1 v2 v3 = vy at hvi hvs
    generalize voteB v1 v2 v3 = vb at hvi hvs
    have evb : (vb == vb) = true := by simp
    have HVS : Hid (∀ wx, Calls Tryd.prog 18 #[.int .i64 v1, .int .i64 v2, .int .i64 v3] wx fun e w' => e = .returned (.tuple #[.agg #[.int .i64 vx, .int .i64 vy], .bool vb]) ∧ Below wx.heap.size wx w') := hvs
    clear hvs
    go_wp2_with fail
    refine hvi.mono ?_
    clear hvi
    rintro e wx4 ⟨rfl, hb⟩
    have HBx4 : Hid (Below w.heap.size w wx4) := HBx3.out.trans (hb.mono HBx3.out.size)
    clear hb
    go_wp2_with fail
    refine (HVS.out _).mono ?_
    rintro e wx5 ⟨rfl, hb⟩
    have HBx5 : Hid (Below w.heap.size w wx5) := (HBx4.out.alloc HBx4.out.size _).trans (hb.mono (by have := HBx4.out.size; simp; omega))
    have HVC : Hid (C2 wx5 wx4.heap.size vx vy) := (c2_new wx4 vx vy 31 wx4.heap.size rfl).keep hb
    clear hb
    obtain ⟨va, vbb, vc, vd⟩ := HVC.out
    have vl := HVC.out.lt
    have heq : ∀ wx : World, (binOp .eql 31 (.agg #[.int .i64 vx, .int .i64 vy]) (.agg #[.int .i64 vx, .int .i64 vy])).run Tryd.prog wx = .ok (.bool true) wx := fun wx => by rw [run_eql_sealed]; simp
    go_wp2
    go_ret
    exact ⟨rfl, HBx5.out.alloc HBx5.out.size _⟩
  · obtain ⟨hcl, hok⟩ := HCN.out rfl
    obtain ⟨ho1, ho2, ho3, ho4⟩ := pollOk_parts hok
    obtain ⟨hg1, hg2⟩ := poll_log hok
    rw [hg2] at hcl
    have HCI : Hid (ci = (sumL (ys.zip zs) : Int)) := hcl
    have HLB : Hid (logB (pollM xs ys zs) 100 = true ∧ logI (pollM xs ys zs) 100 = sumL (ys.zip zs)) := ⟨hg1, hg2⟩
    have hqq : q2 = q3 := by rw [← HY.out, ← HZ.out]; exact ho2
    subst hqq
    have h12 : q2 ≤ 12 := by rw [← HY.out]; exact ho3
    have HG : Hid (secsB xs = true) := ho1
    have HL : Hid (ys.length = zs.length) := ho2
    have HZL : Hid ((ys.zip zs).length = q2) := by show _ = _; rw [List.length_zip, HY.out, HZ.out]; omega
    have HZG : Hid (∀ k, k < q2 → (ys.zip zs).getD k (0, 0) = (ys.getD k 0, zs.getD k 0)) := fun k hk => zip_getD (by rw [HY.out]; exact hk) (by rw [HZ.out]; exact hk)
    have HVt : Hid (∀ k, k < q2 → voteB (keyI xs) (ys.getD k 0) (zs.getD k 0) = true) := fun k hk => by
      have h := all_at (d := (0, 0)) ho4 (k := k) (by rw [HZL.out]; exact hk)
      rw [HZG.out k hk] at h
      exact h
    have HSn : Hid (∀ k, k < q2 → pollL (keyI xs) ((ys.zip zs).take (k + 1)) = pollL (keyI xs) ((ys.zip zs).take k) ++ [voteP (keyI xs) (ys.getD k 0) (zs.getD k 0)]) := fun k hk => by
      have := pollL_snoc (keyI xs) (l := ys.zip zs) (k := k) (by rw [HZL.out]; exact hk)
      rw [HZG.out k hk] at this
      exact this
    have HSs : Hid (∀ k, k < q2 → sumL ((ys.zip zs).take (k + 1)) = sumL ((ys.zip zs).take k) + (zs.getD k 0).toNat) := fun k hk => by
      have := sumL_snoc (l := ys.zip zs) (k := k) (by rw [HZL.out]; exact hk)
      rw [HZG.out k hk] at this
      exact this
    have HLn : Hid (∀ k, k ≤ q2 → (pollL (keyI xs) ((ys.zip zs).take k)).length = k) := fun k hk => by
      simp only [pollL, List.length_map, List.length_take, HZL.out]; omega
    have HV : Hid (pollV xs ys zs = pollL (keyI xs) (ys.zip zs)) := rfl
    have HF : Hid (addB (pollV xs ys zs) = true ∧ sealB (addX (pollV xs ys zs)) (addY (pollV xs ys zs)) = true ∧ sumOk (addX (pollV xs ys zs)) (addY (pollV xs ys zs)) (partL (addX (pollV xs ys zs)) xs) = true) := ⟨pollV_add HL.out (by rw [HY.out]; omega), pollV_sum xs ys zs, pollV_sumOk ys zs HG.out⟩
    have hk := implKey_c a1 q1 c1 xs w3 HX.out (by omega) HR3.out.1 (HT.out.keep HB3.out)
    rw [ho1] at hk
    simp only [if_true] at hk
    clear hcl hok ho1 ho2 ho3 ho4 hg1 hg2 HCN
    obtain ⟨key, hkey⟩ : ∃ key, keyI xs = key := ⟨_, rfl⟩
    rw [hkey] at hk HVt HSn HLn HV
    clear hkey
    go_wp2_with fail
    refine hk.mono ?_
    clear hk
    rintro e w4 ⟨rfl, hb⟩
    have HB4 : Hid (Below w.heap.size w w4) := HB3.out.trans (hb.mono HB3.out.size)
    have HR4 : Hid (Rd w4 a1 xs ∧ Rd w4 a2 ys ∧ Rd w4 a3 zs) := ⟨HR3.out.1.later hb, HR3.out.2.1.later hb, HR3.out.2.2.later hb⟩
    have HT4 : Hid (Tab w4) := HT.out.keep HB4.out
    clear hb HR3 HB3
    go_wp2
    go_loopw [14, 15, 83] (fun s v i wr => ∃ (k S : Nat), k ≤ q2 ∧ i = .int .i64 k ∧ s = .int .i64 S ∧ S ≤ 3 * k ∧ Hid (S = sumL ((ys.zip zs).take k)) ∧ Hid (OwnP wr w4.heap.size v (pollL key ((ys.zip zs).take k))) ∧ Hid (Below w4.heap.size w4 wr)) (fun _ _ i _ => q2 - (intOf i).toNat)
    case atStart => exact ⟨0, 0, Nat.zero_le _, rfl, rfl, Nat.zero_le _, rfl, World.ownsRow_nil _ _ _ _, Below.refl _ _⟩
    case round =>
      obtain ⟨k, S, hk, rfl, rfl, hS3, hS, hO, hB⟩ := hrel
      by_cases hlt : k < q2
      · obtain ⟨b1, o1, rfl, g1⟩ := Rd.get (k := k) (HR4.out.2.1.later hB.out) (by rw [HY.out]; exact hlt)
        obtain ⟨b2, o2, rfl, g2⟩ := Rd.get (k := k) (HR4.out.2.2.later hB.out) (by rw [HZ.out]; exact hlt)
        have h0k : (0 : Int) ≤ (k : Int) := by omega
        have hkm : (k : Int) < (q2 : Int) := by omega
        have hv := HVt.out k hlt
        have hbd := vote_bd hv
        have hcv := implVote_c key (ys.getD k 0) (zs.getD k 0) wr (HT4.out.keep hB.out)
        rw [(vote_yes hv).1, (vote_yes hv).2, hv] at hcv
        have HSN : Hid (pollL key ((ys.zip zs).take (k + 1)) = pollL key ((ys.zip zs).take k) ++ [voteP key (ys.getD k 0) (zs.getD k 0)]) := HSn.out k hlt
        have HSS : Hid (S + (zs.getD k 0).toNat = sumL ((ys.zip zs).take (k + 1))) := by show _ = _; rw [HSs.out k hlt, hS.out]
        clear hv
        generalize voteP key (ys.getD k 0) (zs.getD k 0) = vp at hcv HSN
        generalize ys.getD k 0 = nn at g1 hcv
        generalize zs.getD k 0 = cc at g2 hcv HSS hbd
        obtain ⟨x, y⟩ := vp
        dsimp only at hcv
        obtain ⟨cn, rfl⟩ : ∃ cn : Nat, cc = cn := ⟨cc.toNat, by omega⟩
        rw [Int.toNat_natCast] at HSS
        go_wp2_with fail
        refine hcv.mono ?_
        clear hcv g1 g2
        rintro e w5 ⟨rfl, hb⟩
        have HB5 : Hid (Below w4.heap.size w4 w5) := hB.out.trans (hb.mono hB.out.size)
        have hO2 : OwnP w5 w4.heap.size u15 (pollL key ((ys.zip zs).take k)) := hO.out.later hb
        have hob : ∀ k', u15.ownBlock = some k' → w4.heap.size ≤ k' := own_block_geP hO2
        have hlen := HLn.out k hk
        have hown : (w5.alloc (Obj.cells #[Value.int .i64 x, Value.int .i64 y] 31)).ownsRow w4.heap.size 31 2 u15 k (cellsP (pollL key ((ys.zip zs).take k))) := by have h := hO2; unfold OwnP at h; rw [hlen] at h; exact h.alloc _
        have HLk : Hid ((pollL key ((ys.zip zs).take k)).length = k) := hlen
        clear hb hO2 hlen hO hB
        generalize pollL key ((ys.zip zs).take k) = out at hown HLk HSN
        go_wp2_with (at_builtin; refine wpList_append_own _ rfl _ _ 29 rfl w4.heap.size 31 i0 (.agg #[.int .i64 0, .int .i64 0]) 2 16 Tryd.underlying29 hi hz0 hz1 hz2 rfl (by decide) _ _ _ rfl (hown.alloc _) ⟨w5.heap.size + 1, 0, none⟩ 1 1 [.int .i64 x, .int .i64 y] rfl rfl (cell_new2g _ _ _ _ _ (by simp)) (cellsP_one [(x, y)]) (by unfold maxLen; omega) (by omega) (by have := HB5.out.size; simp; omega) ?_; intro v' w6 hown' hgrow _; have HO' : Hid (OwnP w6 w4.heap.size v' (out ++ [(x, y)])) := own_pushP (by rw [HLk.out]; exact hown'); have HB' : Hid (Below w4.heap.size w4 w6) := ((HB5.out.alloc HB5.out.size _).alloc (by have := HB5.out.size; simp; omega) _).grown hgrow (by have := HB5.out.size; simp; omega) (fun k' e => hob k' e); clear hown' hgrow)
        go_roundw
        case rel => exact ⟨k + 1, S + cn, by omega, by go_num, by go_num, by omega, HSS, by show OwnP _ _ _ _; rw [HSN.out]; exact HO'.out, HB'⟩
        case measure => simp [intOf]; omega
      · obtain rfl : k = q2 := by omega
        rw [List.take_of_length_le (by rw [HZL.out]; exact Nat.le_refl _), ← HV.out] at hO
        rw [List.take_of_length_le (by rw [HZL.out]; exact Nat.le_refl _)] at hS
        obtain ⟨a', c', hv⟩ := hO.out.shape
        rw [show (pollV xs ys zs).length = k by rw [pollV_length HL.out]; exact HY.out] at hv
        subst hv
        have hva := implVotes_c a' k c' (pollV xs ys zs) wr (by rw [pollV_length HL.out]; exact HY.out) (by omega) hO.out.rd'.2
        rw [(add_yes HF.out.1).1, (add_yes HF.out.1).2, HF.out.1] at hva
        have hsu := fun wx a' c' (h : Rd wx a' (partL (addX (pollV xs ys zs)) xs)) => implSum_c (addX (pollV xs ys zs)) (addY (pollV xs ys zs)) a' q1 c' (partL (addX (pollV xs ys zs)) xs) 100 wx (by rw [partL_length]; exact HX.out) (by omega) h
        rw [(sum_yes HF.out.2.2 100).1, (sum_yes HF.out.2.2 100).2, ← openI_eq] at hsu
        rw [show openI (addX (pollV xs ys zs)) (addY (pollV xs ys zs)) xs = pollM xs ys zs from rfl, HLB.out.1, HLB.out.2, ← hS.out] at hsu
        have HPp : Hid (∀ (s x0 : Int) wx, 1 ≤ s ∧ s ≤ 1498 → Calls Tryd.prog 13 #[.int .i64 s, .agg #[.int .i64 (addX (pollV xs ys zs)), .int .i64 (addY (pollV xs ys zs))]] wx fun e w' => e = .returned (.tuple #[.int .i64 (pw (addX (pollV xs ys zs)) s.toNat), .bool true]) ∧ Below wx.heap.size wx w') := fun s _ wx hs => by
          have h := implPart_c s (addX (pollV xs ys zs)) (addY (pollV xs ys zs)) wx
          have ho : openB s (addX (pollV xs ys zs)) (addY (pollV xs ys zs)) = true := by simp only [openB, decide_eq_true hs, HF.out.2.1, Bool.and_self]
          rw [ho] at h
          simp only [partI, ho, if_true] at h
          exact h
        have HA1 : Hid (allB xs 1 1498 = true) := secs_all HG.out
        have HCS : Hid (ci = (S : Int)) := by show _ = _; rw [HCI.out, hS.out]
        obtain ⟨A, hA⟩ : ∃ A, addX (pollV xs ys zs) = A := ⟨_, rfl⟩
        obtain ⟨Bv, hBv⟩ : ∃ Bv, addY (pollV xs ys zs) = Bv := ⟨_, rfl⟩
        rw [hA, hBv] at hva HPp hsu
        clear hA hBv HF HCI HLB
        have H3 : Hid (∀ wx a' c', Rd wx a' (partL A xs) → Calls Tryd.prog 14 #[.agg #[.int .i64 A, .int .i64 Bv], .slice a' q1 c', .int .i64 100] wx fun e w' => e = .returned (.tuple #[.int .i64 (S : Int), .bool true]) ∧ Below wx.heap.size wx w') := hsu
        clear hsu
        go_wp2_with fail
        refine hva.mono ?_
        clear hva
        rintro e w5 ⟨rfl, hb⟩
        have HB5 : Hid (Below w.heap.size w (w5.alloc (Obj.cells #[Value.int .i64 A, Value.int .i64 Bv] 31))) := by
          have h2 : Below w.heap.size w w5 := HB4.out.trans ((hB.out.trans (hb.mono hB.out.size)).mono HB4.out.size)
          exact h2.alloc h2.size _
        have HR5 : Hid (Rd (w5.alloc (Obj.cells #[Value.int .i64 A, Value.int .i64 Bv] 31)) a1 xs) := by
          have h2 : Below w4.heap.size w4 w5 := hB.out.trans (hb.mono hB.out.size)
          exact HR4.out.1.later (h2.alloc h2.size _)
        have HC5 : Hid (C2 (w5.alloc (Obj.cells #[Value.int .i64 A, Value.int .i64 Bv] 31)) w5.heap.size A Bv) := c2_new w5 A Bv 31 w5.heap.size rfl
        clear hb hO hB HB4 HR4 HT4
        go_wp2
        obtain ⟨W, hW⟩ : ∃ W, w5.alloc (Obj.cells #[Value.int .i64 A, Value.int .i64 Bv] 31) = W := ⟨_, rfl⟩
        rw [hW] at HB5 HR5 HC5 ⊢
        clear hW
        go_loopw [22, 115] (fun v i wr => ∃ (k : Nat), k ≤ q1 ∧ i = .int .i64 k ∧ Hid (Own wr W.heap.size v (partL A (xs.take k))) ∧ Hid (Below W.heap.size W wr)) (fun _ i _ => q1 - (intOf i).toNat)
        case atStart => exact ⟨0, Nat.zero_le _, rfl, World.ownsRow_nil _ _ _ _, Below.refl _ _⟩
        case round =>
          obtain ⟨k2, hk2, rfl, hO, hB⟩ := hrel
          by_cases hlt : k2 < q1
          · have hkl : k2 < xs.length := by rw [HX.out]; exact hlt
            obtain ⟨b, o, rfl, g1⟩ := Rd.get (HR5.out.later hB.out) hkl
            have hxk := allB_getD HA1.out k2 hkl
            have HTk : Hid (partL A (xs.take (k2 + 1)) = partL A (xs.take k2) ++ [pw A (xs.getD k2 0).toNat]) := partL_snoc A hkl
            have hlen : (partL A (xs.take k2)).length = k2 := by simp only [partL, List.length_map, List.length_take]; omega
            have qw := HPp.out (xs.getD k2 0) 0 wr hxk
            generalize xs.getD k2 0 = sv at g1 hxk HTk qw
            generalize pw A sv.toNat = x0 at qw HTk
            obtain ⟨e0, e1, e2, e3⟩ := HC5.out.keep hB.out
            clear hkl
            go_wp2_with fail
            refine qw.mono ?_
            clear qw e0 e1 e2 e3 g1
            rintro e w6 ⟨rfl, hb⟩
            have HB6 : Hid (Below W.heap.size W w6) := hB.out.trans (hb.mono hB.out.size)
            have hO2 : Own w6 W.heap.size u22 (partL A (xs.take k2)) := hO.out.later hb
            have hob : ∀ k', u22.ownBlock = some k' → W.heap.size ≤ k' := own_block_ge hO2
            have hown : w6.ownsRow W.heap.size 3 1 u22 k2 (cellsI (partL A (xs.take k2))) := by have h := hO2; unfold Own at h; rw [hlen] at h; exact h
            have HLk : Hid ((partL A (xs.take k2)).length = k2) := hlen
            clear hb hO2 hlen hO hB
            generalize partL A (xs.take k2) = out at hown HLk HTk
            go_wp2_with (at_builtin; refine wpList_append_own _ rfl _ _ 23 rfl W.heap.size 3 j0 (.int .i64 0) 1 8 Tryd.underlying23 hj hy0 hy1 hy2 rfl (by decide) _ _ _ rfl (hown.alloc _) ⟨w6.heap.size, 0, none⟩ 1 1 [.int .i64 x0] rfl rfl (cell_new1 _ _ _) (ints_oneCell .i64 [x0]) (by unfold maxLen; omega) (by omega) (by have := HB6.out.size; simp; omega) ?_; intro v' w7 hown' hgrow _; have HO' : Hid (Own w7 W.heap.size v' (out ++ [x0])) := own_push (w := w6) (v := u22) (by simpa [HLk.out] using hown'); have HB' : Hid (Below W.heap.size W w7) := (HB6.out.alloc HB6.out.size _).grown hgrow (by have := HB6.out.size; simp; omega) (fun k' e => hob k' e); clear hown' hgrow)
            go_roundw
            case rel => exact ⟨k2 + 1, by omega, by go_num, by show Own _ _ _ _; rw [HTk.out]; exact HO'.out, HB'⟩
            case measure => simp [intOf]; omega
          · obtain rfl : k2 = q1 := by omega
            rw [List.take_of_length_le (by rw [HX.out]; exact Nat.le_refl _)] at hO
            obtain ⟨a6, c6, hv⟩ := hO.out.shape
            rw [partL_length, HX.out] at hv
            subst hv
            obtain ⟨e0, e1, e2, e3⟩ := HC5.out.keep hB.out
            have hcS : (ci != (S : Int)) = false := by rw [HCS.out]; simp
            have hSS : ((S : Int) != (S : Int)) = false := by simp
            go_wp2_with fail
            refine (H3.out _ _ _ hO.out.rd'.2).mono ?_
            clear e0 e1 e2 e3
            rintro e w6 ⟨rfl, hb⟩
            have HB : Hid (Below w.heap.size w w6) := HB5.out.trans ((hB.out.trans (hb.mono hB.out.size)).mono HB5.out.size)
            clear hb hO hB HB5 HR5 HC5
            have HBx0 : Hid (Below w.heap.size w w6) := HB
            go_wp2_with fail
            refine (drawKeyOf_c bo m d _ hm (HM.out.later HBx0.out HBx0.out.size)).mono ?_
            rintro e wx1 ⟨ka, kq, kc, kl, rfl, hkq, hkl, hkr, hb⟩
            have HBx1 : Hid (Below w.heap.size w wx1) := HBx0.out.trans (hb.mono HBx0.out.size)
            have HKL : Hid (kl.length = kq) := hkl
            have HKR : Hid (Rd wx1 ka kl) := hkr
            clear hb hkl hkr
            have hki := implKey_c ka kq kc kl wx1 HKL.out (by omega) HKR.out (HT.out.keep HBx1.out)
            have hks := fun wx h => specKey_c ka kq kc kl wx HKL.out (by omega) h
            generalize (if secsB kl = true then keyI kl else 0) = kv at hki hks
            generalize secsB kl = kb at hki hks
            have ekb : (kb == kb) = true := by simp
            have ekv : (kv == kv) = true := by simp
            have HKS : Hid (∀ wx, Rd wx ka kl → Calls Tryd.prog 16 #[.slice ka kq kc] wx fun e w' => e = .returned (.tuple #[.int .i64 kv, .bool kb]) ∧ w' = wx) := hks
            clear hks
            go_wp2_with fail
            refine hki.mono ?_
            clear hki
            rintro e wx2 ⟨rfl, hb⟩
            have HBx2 : Hid (Below w.heap.size w wx2) := HBx1.out.trans (hb.mono HBx1.out.size)
            have HKR2 : Hid (Rd wx2 ka kl) := HKR.out.later hb
            clear hb HKR
            go_wp2_with fail
            refine (HKS.out _ HKR2.out).mono ?_
            rintro e w' ⟨rfl, hw⟩
            subst w'
            go_wp2_with fail
            refine (drawCastVote_c bo m d _ hm (HM.out.later HBx2.out HBx2.out.size)).mono ?_
            rintro e wx3 ⟨v1, v2, v3, rfl, hb⟩
            have HBx3 : Hid (Below w.heap.size w wx3) := HBx2.out.trans (hb.mono HBx2.out.size)
            clear hb
            have hvi := implVote_c v1 v2 v3 wx3 (HT.out.keep HBx3.out)
            have hvs := fun wx => specVote_c v1 v2 v3 wx
            generalize voteX v1 v2 v3 = vx at hvi hvs
            generalize voteY v1 v2 v3 = vy at hvi hvs
            generalize voteB v1 v2 v3 = vb at hvi hvs
            have evb : (vb == vb) = true := by simp
            have HVS : Hid (∀ wx, Calls Tryd.prog 18 #[.int .i64 v1, .int .i64 v2, .int .i64 v3] wx fun e w' => e = .returned (.tuple #[.agg #[.int .i64 vx, .int .i64 vy], .bool vb]) ∧ Below wx.heap.size wx w') := hvs
            clear hvs
            go_wp2_with fail
            refine hvi.mono ?_
            clear hvi
            rintro e wx4 ⟨rfl, hb⟩
            have HBx4 : Hid (Below w.heap.size w wx4) := HBx3.out.trans (hb.mono HBx3.out.size)
            clear hb
            go_wp2_with fail
            refine (HVS.out _).mono ?_
            rintro e wx5 ⟨rfl, hb⟩
            have HBx5 : Hid (Below w.heap.size w wx5) := (HBx4.out.alloc HBx4.out.size _).trans (hb.mono (by have := HBx4.out.size; simp; omega))
            have HVC : Hid (C2 wx5 wx4.heap.size vx vy) := (c2_new wx4 vx vy 31 wx4.heap.size rfl).keep hb
            clear hb
            obtain ⟨va, vbb, vc, vd⟩ := HVC.out
            have vl := HVC.out.lt
            have heq : ∀ wx : World, (binOp .eql 31 (.agg #[.int .i64 vx, .int .i64 vy]) (.agg #[.int .i64 vx, .int .i64 vy])).run Tryd.prog wx = .ok (.bool true) wx := fun wx => by rw [run_eql_sealed]; simp
            go_wp2
            go_ret
            exact ⟨rfl, HBx5.out.alloc HBx5.out.size _⟩

end Go.Proofs.YtobomcmjilcnaaaDoor
