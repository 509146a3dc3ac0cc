/- The law FnOpened, walked: true at every two texts. -/
import Derived.Test.YtobomcmjilcnaaaD6S
import Derived.Test.YtobomcmjilcnaaaF6P
namespace Go.Proofs.Ytobomcmjilcnaaa
set_option linter.unusedVariables false
set_option maxRecDepth 1000000
set_option linter.unusedSimpArgs false
open Go.RowKit

theorem log_true {m most : Int} (h : logB m most = true) : ∃ k : Nat, logI m most = k ∧ k ≤ 100 ∧ pw 4 k = m := by
  have h2 := h
  unfold logB at h2
  rw [Bool.and_eq_true, Bool.and_eq_true, decide_eq_true_eq, decide_eq_true_eq] at h2
  obtain ⟨j, h3, h4, h5⟩ := logF_found h2.2
  refine ⟨j, ?_, by omega, h5⟩
  rw [logI_yes h]
  exact h3

/-- The sum of secrets, modulo the small prime. -/
def sumS (l : List Int) : Nat := (l.map Int.toNat).sum
theorem sumS_snoc {l : List Int} {k : Nat} (h : k < l.length) : sumS (l.take (k + 1)) = sumS (l.take k) + (l.getD k 0).toNat := by
  rw [take_snoc h, sumS, List.map_append, List.sum_append]
  simp [sumS]
theorem sumS_step {l : List Int} {k : Nat} (h : k < l.length) : sumS (l.take (k + 1)) % 1499 = (sumS (l.take k) % 1499 + (l.getD k 0).toNat) % 1499 := by
  rw [sumS_snoc h]; omega

set_option maxHeartbeats 16000000 in
set_option maxRecDepth 1000000 in
theorem lawFnOpened_c (ao : Option Addr) (n c : Nat) (bo : Option Addr) (m d : Nat) (w : World) (hn : n ≤ 9223372036854775807) (h1 : CodeOk w w.heap.size ao n) (hm : m ≤ 9223372036854775807) (h2 : CodeOk w w.heap.size bo m) :
    Calls Try.prog 3 #[.slice ao n c, .slice bo m d] w fun e w' => e = .returned (.bool true) ∧ Below w.heap.size w w' := by
  by_cases hl : 1048576 < wrap64 ((n : Int) + (m : Int))
  · clear h1 h2
    go_enter Try.func3, Try.ntmps3
    go_wp2
    go_ret
    exact ⟨rfl, Below.refl _ _⟩
  have HN : Hid (CodeOk w w.heap.size ao n) := h1
  have HM : Hid (CodeOk w w.heap.size bo m) := h2
  clear h1 h2
  go_enter Try.func3, Try.ntmps3
  go_wp2_with fail
  refine (drawOpenAll_c ao n c w hn HN.out).mono ?_
  rintro e w1 ⟨a1, q, c1, xs, x, y, rfl, hq, hx, hr, hb⟩
  have HX : Hid (xs.length = q) := hx
  have HR1 : Hid (Rd w1 a1 xs) := hr
  have HB1 : Hid (Below w.heap.size w w1) := hb
  clear hx hr hb HN
  have hai := fun wx h => implAll_c a1 q c1 xs x y wx HX.out (by omega) h
  have has := fun wx h => specAll_c a1 q c1 xs x y wx HX.out (by omega) h
  have HAO : Hid (allOk x y xs = true → secsB xs = true ∧ sealB x y = true ∧ allI x y xs = openI x y xs) := fun h => by
    have h2 := h
    unfold allOk at h2
    rw [Bool.and_eq_true] at h2
    exact ⟨h2.1, h2.2, by simp only [allI, h, if_true]⟩
  generalize allI x y xs = o1 at hai has HAO
  generalize allOk x y xs = ob at hai has HAO
  have eo1 : (o1 != o1) = false := by simp
  have eob : (ob != ob) = false := by simp
  have HAI : Hid (∀ wx, Rd wx a1 xs → Calls Try.prog 10 #[.slice a1 q c1, .agg #[.int .i64 x, .int .i64 y]] wx fun e w' => e = .returned (.tuple #[.int .i64 o1, .bool ob]) ∧ Below wx.heap.size wx w') := hai
  have HAS : Hid (∀ wx, Rd wx a1 xs → Calls Try.prog 11 #[.slice a1 q c1, .agg #[.int .i64 x, .int .i64 y]] wx fun e w' => e = .returned (.tuple #[.int .i64 o1, .bool ob]) ∧ Below wx.heap.size wx w') := has
  clear hai has
  go_wp2_with fail
  refine (HAI.out _ (HR1.out.later (below_one _ _))).mono ?_
  rintro e w2 ⟨rfl, hb⟩
  have hB : Below w1.heap.size w1 w2 := (below_one _ _).trans (hb.mono (by simp))
  have HB2 : Hid (Below w.heap.size w w2) := HB1.out.trans (hB.mono HB1.out.size)
  have HR2 : Hid (Rd w2 a1 xs) := HR1.out.later hB
  have X2 : Hid (C2 w2 w1.heap.size x y) := (c2_new w1 x y 25 w1.heap.size rfl).keep hb
  clear hb hB HR1 HB1
  obtain ⟨xa, xb, xc, xd⟩ := X2.out
  go_wp2_with fail
  refine (HAS.out _ HR2.out).mono ?_
  clear xa xb xc xd
  rintro e w3 ⟨rfl, hb⟩
  have HB3 : Hid (Below w.heap.size w w3) := HB2.out.trans (hb.mono HB2.out.size)
  have HR3 : Hid (Rd w3 a1 xs) := HR2.out.later hb
  have X3 : Hid (C2 w3 w1.heap.size x y) := X2.out.keep hb
  clear hb HB2 HR2 X2 HAI HAS
  cases ob
  · have HB := HB3
    clear HB3 HR3 X3 HAO
    obtain ⟨W, rfl⟩ : ∃ W : World, W = w3 := ⟨_, rfl⟩
    have HB_0 : Hid (Below w.heap.size w W) := HB
    go_wp2_with fail
    refine (drawOpenSum_c bo m d _ hm (HM.out.later HB_0.out HB_0.out.size)).mono ?_
    rintro e v1 ⟨sx, sy, pa, pq, pc, pl, top0, rfl, hpq, hpl, hpr, hb⟩
    have hB : Below W.heap.size W v1 := hb
    have HB_1 : Hid (Below w.heap.size w v1) := HB_0.out.trans (hB.mono HB_0.out.size)
    have PR_1 : Hid (Rd v1 pa pl) := hpr
    clear hb hB HB_0
    have HPL : Hid (pl.length = pq) := hpl
    clear hpl hpr
    have hsi := fun wx h => implSum_c sx sy pa pq pc pl top0 wx HPL.out (by omega) h
    have hss := fun wx h => specSum_c sx sy pa pq pc pl top0 wx HPL.out (by omega) h
    generalize sumI sx sy pl top0 = sn at hsi hss
    generalize sumB sx sy pl top0 = sb at hsi hss
    have esn : (sn != sn) = false := by simp
    have esb : (sb != sb) = false := by simp
    have HSI : Hid (∀ wx, Rd wx pa pl → Calls Try.prog 14 #[.agg #[.int .i64 sx, .int .i64 sy], .slice pa pq pc, .int .i64 top0] wx fun e w' => e = .returned (.tuple #[.int .i64 sn, .bool sb]) ∧ Below wx.heap.size wx w') := hsi
    have HSS : Hid (∀ wx, Rd wx pa pl → Calls Try.prog 15 #[.agg #[.int .i64 sx, .int .i64 sy], .slice pa pq pc, .int .i64 top0] wx fun e w' => e = .returned (.tuple #[.int .i64 sn, .bool sb]) ∧ Below wx.heap.size wx w') := hss
    clear hsi hss
    go_wp2_with fail
    refine (HSI.out _ (PR_1.out.later (below_one _ _))).mono ?_
    rintro e v2 ⟨rfl, hb⟩
    have hB : Below v1.heap.size v1 v2 := (below_one _ _).trans (hb.mono (by simp))
    have HB_2 : Hid (Below w.heap.size w v2) := HB_1.out.trans (hB.mono HB_1.out.size)
    have PR_2 : Hid (Rd v2 pa pl) := PR_1.out.later hB
    have XA_2 : Hid (C2 v2 (v1.heap.size) sx sy) := (c2_new v1 sx sy 25 _ rfl).keep hb
    clear hb hB HB_1 PR_1
    obtain ⟨XAa, XAb, XAc, XAd⟩ := XA_2.out
    have XAl := XA_2.out.lt
    go_wp2_with fail
    refine (HSS.out _ PR_2.out).mono ?_
    clear XAa XAb XAc XAd XAl
    rintro e v3 ⟨rfl, hb⟩
    have hB : Below v2.heap.size v2 v3 := hb
    have HB_3 : Hid (Below w.heap.size w v3) := HB_2.out.trans (hB.mono HB_2.out.size)
    clear hb hB HB_2 PR_2 XA_2
    go_wp2_with fail
    refine (drawLogOf_c bo m d _ hm (HM.out.later HB_3.out HB_3.out.size)).mono ?_
    rintro e v4 ⟨lm, lt, rfl, hb⟩
    have hB : Below v3.heap.size v3 v4 := hb
    have HB_4 : Hid (Below w.heap.size w v4) := HB_3.out.trans (hB.mono HB_3.out.size)
    clear hb hB HB_3
    have hli := fun wx => implLog_c lm lt wx
    have hls := fun wx => specLog_c lm lt wx
    have HLT : Hid (logB lm lt = true → ∃ k : Nat, logI lm lt = k ∧ k ≤ 100 ∧ pw 4 k = lm) := fun h => log_true h
    generalize logI lm lt = ln at hli hls HLT
    generalize logB lm lt = lb at hli hls HLT
    have eln : (ln != ln) = false := by simp
    have elb : (lb != lb) = false := by simp
    have HLI : Hid (∀ wx, Calls Try.prog 17 #[.int .i64 lm, .int .i64 lt] wx fun e w' => e = .returned (.tuple #[.int .i64 ln, .bool lb]) ∧ w' = wx) := hli
    have HLS : Hid (∀ wx, Calls Try.prog 18 #[.int .i64 lm, .int .i64 lt] wx fun e w' => e = .returned (.tuple #[.int .i64 ln, .bool lb]) ∧ w' = wx) := hls
    clear hli hls
    go_wp2_with fail
    refine (HLI.out _).mono ?_
    rintro e w' ⟨rfl, hw⟩
    subst w'
    go_wp2_with fail
    refine (HLS.out _).mono ?_
    rintro e w' ⟨rfl, hw⟩
    subst w'
    go_wp2_with fail
    refine (drawAddVotes_c bo m d _ hm (HM.out.later HB_4.out HB_4.out.size)).mono ?_
    rintro e v5 ⟨va, vq, vc, vl, rfl, hvq, hvl, hvr, hb⟩
    have hB : Below v4.heap.size v4 v5 := hb
    have HB_5 : Hid (Below w.heap.size w v5) := HB_4.out.trans (hB.mono HB_4.out.size)
    have VR_5 : Hid (RdP v5 va vl) := hvr
    clear hb hB HB_4
    have HVL : Hid (vl.length = vq) := hvl
    clear hvl hvr
    have hvi := fun wx h => implVotes_c va vq vc vl wx HVL.out (by omega) h
    have hvs := fun wx h => specVotes_c va vq vc vl wx HVL.out (by omega) h
    generalize addXI vl = ax at hvi hvs
    generalize addYI vl = ay at hvi hvs
    generalize addB vl = ab at hvi hvs
    have eab : (ab != ab) = false := by simp
    have HVI : Hid (∀ wx, RdP wx va vl → Calls Try.prog 20 #[.slice va vq vc] wx fun e w' => e = .returned (.tuple #[.agg #[.int .i64 ax, .int .i64 ay], .bool ab]) ∧ Below wx.heap.size wx w') := hvi
    have HVS : Hid (∀ wx, RdP wx va vl → Calls Try.prog 21 #[.slice va vq vc] wx fun e w' => e = .returned (.tuple #[.agg #[.int .i64 ax, .int .i64 ay], .bool ab]) ∧ Below wx.heap.size wx w') := hvs
    clear hvi hvs
    go_wp2_with fail
    refine (HVI.out _ VR_5.out).mono ?_
    rintro e v6 ⟨rfl, hb⟩
    have hB : Below v5.heap.size v5 v6 := hb
    have HB_6 : Hid (Below w.heap.size w v6) := HB_5.out.trans (hB.mono HB_5.out.size)
    have VR_6 : Hid (RdP v6 va vl) := VR_5.out.later hB
    clear hb hB HB_5 VR_5
    go_wp2_with fail
    refine (HVS.out _ (VR_6.out.later (below_one _ _))).mono ?_
    rintro e v7 ⟨rfl, hb⟩
    have hB : Below v6.heap.size v6 v7 := (below_one _ _).trans (hb.mono (by simp))
    have HB_7 : Hid (Below w.heap.size w v7) := HB_6.out.trans (hB.mono HB_6.out.size)
    have XB_7 : Hid (C2 v7 (v6.heap.size) ax ay) := (c2_new v6 ax ay 25 _ rfl).keep hb
    clear hb hB HB_6 VR_6
    go_wp2_with fail
    refine (drawOpenPart_c bo m d _ hm (HM.out.later (HB_7.out.alloc HB_7.out.size _) (by have := HB_7.out.size; simp; omega))).mono ?_
    rintro e v8 ⟨os, ox, oy, rfl, hb⟩
    have hB : Below v7.heap.size v7 v8 := (below_one _ _).trans (hb.mono (by simp))
    have HB_8 : Hid (Below w.heap.size w v8) := HB_7.out.trans (hB.mono HB_7.out.size)
    have XB_8 : Hid (C2 v8 (v6.heap.size) ax ay) := XB_7.out.keep hB
    have XC_8 : Hid (C2 v8 (v7.heap.size) ax ay) := (c2_new v7 ax ay 25 _ rfl).keep hb
    clear hb hB HB_7 XB_7
    have hpi := fun wx => implPart_c os ox oy wx
    have hps := fun wx => specPart_c os ox oy wx
    generalize partI os ox oy = pn at hpi hps
    generalize openB os ox oy = pb at hpi hps
    have epn : (pn != pn) = false := by simp
    have epb : (pb != pb) = false := by simp
    have HPI : Hid (∀ wx, Calls Try.prog 23 #[.int .i64 os, .agg #[.int .i64 ox, .int .i64 oy]] wx fun e w' => e = .returned (.tuple #[.int .i64 pn, .bool pb]) ∧ Below wx.heap.size wx w') := hpi
    have HPS : Hid (∀ wx, Calls Try.prog 24 #[.int .i64 os, .agg #[.int .i64 ox, .int .i64 oy]] wx fun e w' => e = .returned (.tuple #[.int .i64 pn, .bool pb]) ∧ Below wx.heap.size wx w') := hps
    clear hpi hps
    go_wp2_with fail
    refine (HPI.out _).mono ?_
    rintro e v9 ⟨rfl, hb⟩
    have hB : Below v8.heap.size v8 v9 := (below_one _ _).trans (hb.mono (by simp))
    have HB_9 : Hid (Below w.heap.size w v9) := HB_8.out.trans (hB.mono HB_8.out.size)
    have XB_9 : Hid (C2 v9 (v6.heap.size) ax ay) := XB_8.out.keep hB
    have XC_9 : Hid (C2 v9 (v7.heap.size) ax ay) := XC_8.out.keep hB
    have XD_9 : Hid (C2 v9 (v8.heap.size) ox oy) := (c2_new v8 ox oy 25 _ rfl).keep hb
    clear hb hB HB_8 XB_8 XC_8
    obtain ⟨XDa, XDb, XDc, XDd⟩ := XD_9.out
    have XDl := XD_9.out.lt
    go_wp2_with fail
    refine (HPS.out _).mono ?_
    clear XDa XDb XDc XDd XDl
    rintro e v10 ⟨rfl, hb⟩
    have hB : Below v9.heap.size v9 v10 := hb
    have HB_10 : Hid (Below w.heap.size w v10) := HB_9.out.trans (hB.mono HB_9.out.size)
    have XB_10 : Hid (C2 v10 (v6.heap.size) ax ay) := XB_9.out.keep hB
    have XC_10 : Hid (C2 v10 (v7.heap.size) ax ay) := XC_9.out.keep hB
    clear hb hB HB_9 XB_9 XC_9 XD_9
    have heq : ∀ wx : World, (binOp .neq 25 (.agg #[.int .i64 ax, .int .i64 ay]) (.agg #[.int .i64 ax, .int .i64 ay])).run Try.prog wx = .ok (.bool false) wx := fun wx => by rw [run_neq_sealed]; simp
    obtain ⟨XBa, XBb, XBc, XBd⟩ := XB_10.out
    have XBl := XB_10.out.lt
    obtain ⟨XCa, XCb, XCc, XCd⟩ := XC_10.out
    have XCl := XC_10.out.lt
    cases lb
    · go_wp2
      go_ret
      exact ⟨rfl, HB_10.out⟩
    · obtain ⟨kn, hkn, hk100, hkm⟩ := HLT.out rfl
      subst hkn
      have hpo := fun wx => implPower_c 4 (kn : Int) wx
      have hpb : powB 4 (kn : Int) = true := by simp [powB]; omega
      rw [hpb, if_pos rfl, Int.toNat_natCast, hkm] at hpo
      have elm : (lm == lm) = true := by simp
      have HPO : Hid (∀ wx, Calls Try.prog 25 #[.int .i64 4, .int .i64 kn] wx fun e w' => e = .returned (.tuple #[.int .i64 lm, .bool true]) ∧ w' = wx) := hpo
      clear hpo hpb hkm
      go_wp2_with fail
      refine (HPO.out _).mono ?_
      rintro e w' ⟨rfl, hw⟩
      subst w'
      go_wp2
      go_ret
      exact ⟨rfl, HB_10.out⟩
  · obtain ⟨ho1, ho2, ho3⟩ := HAO.out rfl
    have hmx : memB x = true := by have := ho2; simp only [sealB, Bool.and_eq_true] at this; exact this.1
    have HOW : Hid (o1 = y * pw (pw x (sumS xs % 1499)) 2997 % 2999) := by show _ = _; rw [ho3, open_whole hmx]; rfl
    have HA : Hid (allB xs 1 1498 = true) := secs_all ho1
    have HSL : Hid (sealB x y = true) := ho2
    clear ho1 ho2 ho3 hmx HAO
    go_wp2
    go_loop [11, 76] (fun nv iv => ∃ (k S : Nat), k ≤ q ∧ iv = .int .i64 k ∧ nv = .int .i64 S ∧ S < 1499 ∧ Hid (sumS (xs.take k) % 1499 = S)) (fun _ iv => q - (intOf iv).toNat)
    case atStart => exact ⟨0, 0, Nat.zero_le _, rfl, rfl, by omega, rfl⟩
    case round =>
      obtain ⟨k, S, hk, rfl, rfl, hS, HS⟩ := hrel
      by_cases hlt : k < q
      · have hkl : k < xs.length := by rw [HX.out]; exact hlt
        obtain ⟨b, o, rfl, g1⟩ := Rd.get HR3.out hkl
        have hxk := allB_getD HA.out k hkl
        have H1 : Hid (sumS (xs.take (k + 1)) % 1499 = (S + (xs.getD k 0).toNat) % 1499) := by have := sumS_step hkl; rw [HS.out] at this; exact this
        generalize xs.getD k 0 = v at g1 hxk H1
        obtain ⟨vn, rfl⟩ : ∃ vn : Nat, v = vn := ⟨v.toNat, by omega⟩
        rw [Int.toNat_natCast] at H1
        clear hkl
        go_wp2
        go_round
        case rel => exact ⟨k + 1, (S + vn) % 1499, by omega, by go_num, by go_num, by omega, H1⟩
        case measure => simp [intOf]; omega
      · obtain rfl : k = q := by omega
        rw [List.take_of_length_le (by rw [HX.out]; exact Nat.le_refl _)] at HS
        rw [HS.out] at HOW
        have hon := fun wx => implOpen_c (S : Int) x y wx
        have HEQ : Hid (openB (S : Int) x y = true → (if openB (S : Int) x y = true then (y * pw (pw x ((S : Int)).toNat) 2997 % 2999) else 0) = o1) := fun h => by rw [if_pos h, Int.toNat_natCast, HOW.out]
        generalize (if openB (S : Int) x y = true then (y * pw (pw x ((S : Int)).toNat) 2997 % 2999) else 0) = wv at hon HEQ
        generalize openB (S : Int) x y = wb at hon HEQ
        have HON : Hid (∀ wx, Calls Try.prog 12 #[.int .i64 (S : Int), .agg #[.int .i64 x, .int .i64 y]] wx fun e w' => e = .returned (.tuple #[.int .i64 wv, .bool wb]) ∧ Below wx.heap.size wx w') := hon
        clear hon
        obtain ⟨xa, xb, xc, xd⟩ := X3.out
        go_wp2_with fail
        refine (HON.out _).mono ?_
        clear xa xb xc xd
        rintro e w4 ⟨rfl, hb⟩
        have HB : Hid (Below w.heap.size w w4) := HB3.out.trans (hb.mono HB3.out.size)
        clear hb HB3 HR3 X3 HON
        obtain ⟨W, rfl⟩ : ∃ W : World, W = w4 := ⟨_, rfl⟩
        cases wb
        · clear HEQ
          have HB_0 : Hid (Below w.heap.size w W) := HB
          go_wp2_with fail
          refine (drawOpenSum_c bo m d _ hm (HM.out.later HB_0.out HB_0.out.size)).mono ?_
          rintro e v1 ⟨sx, sy, pa, pq, pc, pl, top0, rfl, hpq, hpl, hpr, hb⟩
          have hB : Below W.heap.size W v1 := hb
          have HB_1 : Hid (Below w.heap.size w v1) := HB_0.out.trans (hB.mono HB_0.out.size)
          have PR_1 : Hid (Rd v1 pa pl) := hpr
          clear hb hB HB_0
          have HPL : Hid (pl.length = pq) := hpl
          clear hpl hpr
          have hsi := fun wx h => implSum_c sx sy pa pq pc pl top0 wx HPL.out (by omega) h
          have hss := fun wx h => specSum_c sx sy pa pq pc pl top0 wx HPL.out (by omega) h
          generalize sumI sx sy pl top0 = sn at hsi hss
          generalize sumB sx sy pl top0 = sb at hsi hss
          have esn : (sn != sn) = false := by simp
          have esb : (sb != sb) = false := by simp
          have HSI : Hid (∀ wx, Rd wx pa pl → Calls Try.prog 14 #[.agg #[.int .i64 sx, .int .i64 sy], .slice pa pq pc, .int .i64 top0] wx fun e w' => e = .returned (.tuple #[.int .i64 sn, .bool sb]) ∧ Below wx.heap.size wx w') := hsi
          have HSS : Hid (∀ wx, Rd wx pa pl → Calls Try.prog 15 #[.agg #[.int .i64 sx, .int .i64 sy], .slice pa pq pc, .int .i64 top0] wx fun e w' => e = .returned (.tuple #[.int .i64 sn, .bool sb]) ∧ Below wx.heap.size wx w') := hss
          clear hsi hss
          go_wp2_with fail
          refine (HSI.out _ (PR_1.out.later (below_one _ _))).mono ?_
          rintro e v2 ⟨rfl, hb⟩
          have hB : Below v1.heap.size v1 v2 := (below_one _ _).trans (hb.mono (by simp))
          have HB_2 : Hid (Below w.heap.size w v2) := HB_1.out.trans (hB.mono HB_1.out.size)
          have PR_2 : Hid (Rd v2 pa pl) := PR_1.out.later hB
          have XA_2 : Hid (C2 v2 (v1.heap.size) sx sy) := (c2_new v1 sx sy 25 _ rfl).keep hb
          clear hb hB HB_1 PR_1
          obtain ⟨XAa, XAb, XAc, XAd⟩ := XA_2.out
          have XAl := XA_2.out.lt
          go_wp2_with fail
          refine (HSS.out _ PR_2.out).mono ?_
          clear XAa XAb XAc XAd XAl
          rintro e v3 ⟨rfl, hb⟩
          have hB : Below v2.heap.size v2 v3 := hb
          have HB_3 : Hid (Below w.heap.size w v3) := HB_2.out.trans (hB.mono HB_2.out.size)
          clear hb hB HB_2 PR_2 XA_2
          go_wp2_with fail
          refine (drawLogOf_c bo m d _ hm (HM.out.later HB_3.out HB_3.out.size)).mono ?_
          rintro e v4 ⟨lm, lt, rfl, hb⟩
          have hB : Below v3.heap.size v3 v4 := hb
          have HB_4 : Hid (Below w.heap.size w v4) := HB_3.out.trans (hB.mono HB_3.out.size)
          clear hb hB HB_3
          have hli := fun wx => implLog_c lm lt wx
          have hls := fun wx => specLog_c lm lt wx
          have HLT : Hid (logB lm lt = true → ∃ k : Nat, logI lm lt = k ∧ k ≤ 100 ∧ pw 4 k = lm) := fun h => log_true h
          generalize logI lm lt = ln at hli hls HLT
          generalize logB lm lt = lb at hli hls HLT
          have eln : (ln != ln) = false := by simp
          have elb : (lb != lb) = false := by simp
          have HLI : Hid (∀ wx, Calls Try.prog 17 #[.int .i64 lm, .int .i64 lt] wx fun e w' => e = .returned (.tuple #[.int .i64 ln, .bool lb]) ∧ w' = wx) := hli
          have HLS : Hid (∀ wx, Calls Try.prog 18 #[.int .i64 lm, .int .i64 lt] wx fun e w' => e = .returned (.tuple #[.int .i64 ln, .bool lb]) ∧ w' = wx) := hls
          clear hli hls
          go_wp2_with fail
          refine (HLI.out _).mono ?_
          rintro e w' ⟨rfl, hw⟩
          subst w'
          go_wp2_with fail
          refine (HLS.out _).mono ?_
          rintro e w' ⟨rfl, hw⟩
          subst w'
          go_wp2_with fail
          refine (drawAddVotes_c bo m d _ hm (HM.out.later HB_4.out HB_4.out.size)).mono ?_
          rintro e v5 ⟨va, vq, vc, vl, rfl, hvq, hvl, hvr, hb⟩
          have hB : Below v4.heap.size v4 v5 := hb
          have HB_5 : Hid (Below w.heap.size w v5) := HB_4.out.trans (hB.mono HB_4.out.size)
          have VR_5 : Hid (RdP v5 va vl) := hvr
          clear hb hB HB_4
          have HVL : Hid (vl.length = vq) := hvl
          clear hvl hvr
          have hvi := fun wx h => implVotes_c va vq vc vl wx HVL.out (by omega) h
          have hvs := fun wx h => specVotes_c va vq vc vl wx HVL.out (by omega) h
          generalize addXI vl = ax at hvi hvs
          generalize addYI vl = ay at hvi hvs
          generalize addB vl = ab at hvi hvs
          have eab : (ab != ab) = false := by simp
          have HVI : Hid (∀ wx, RdP wx va vl → Calls Try.prog 20 #[.slice va vq vc] wx fun e w' => e = .returned (.tuple #[.agg #[.int .i64 ax, .int .i64 ay], .bool ab]) ∧ Below wx.heap.size wx w') := hvi
          have HVS : Hid (∀ wx, RdP wx va vl → Calls Try.prog 21 #[.slice va vq vc] wx fun e w' => e = .returned (.tuple #[.agg #[.int .i64 ax, .int .i64 ay], .bool ab]) ∧ Below wx.heap.size wx w') := hvs
          clear hvi hvs
          go_wp2_with fail
          refine (HVI.out _ VR_5.out).mono ?_
          rintro e v6 ⟨rfl, hb⟩
          have hB : Below v5.heap.size v5 v6 := hb
          have HB_6 : Hid (Below w.heap.size w v6) := HB_5.out.trans (hB.mono HB_5.out.size)
          have VR_6 : Hid (RdP v6 va vl) := VR_5.out.later hB
          clear hb hB HB_5 VR_5
          go_wp2_with fail
          refine (HVS.out _ (VR_6.out.later (below_one _ _))).mono ?_
          rintro e v7 ⟨rfl, hb⟩
          have hB : Below v6.heap.size v6 v7 := (below_one _ _).trans (hb.mono (by simp))
          have HB_7 : Hid (Below w.heap.size w v7) := HB_6.out.trans (hB.mono HB_6.out.size)
          have XB_7 : Hid (C2 v7 (v6.heap.size) ax ay) := (c2_new v6 ax ay 25 _ rfl).keep hb
          clear hb hB HB_6 VR_6
          go_wp2_with fail
          refine (drawOpenPart_c bo m d _ hm (HM.out.later (HB_7.out.alloc HB_7.out.size _) (by have := HB_7.out.size; simp; omega))).mono ?_
          rintro e v8 ⟨os, ox, oy, rfl, hb⟩
          have hB : Below v7.heap.size v7 v8 := (below_one _ _).trans (hb.mono (by simp))
          have HB_8 : Hid (Below w.heap.size w v8) := HB_7.out.trans (hB.mono HB_7.out.size)
          have XB_8 : Hid (C2 v8 (v6.heap.size) ax ay) := XB_7.out.keep hB
          have XC_8 : Hid (C2 v8 (v7.heap.size) ax ay) := (c2_new v7 ax ay 25 _ rfl).keep hb
          clear hb hB HB_7 XB_7
          have hpi := fun wx => implPart_c os ox oy wx
          have hps := fun wx => specPart_c os ox oy wx
          generalize partI os ox oy = pn at hpi hps
          generalize openB os ox oy = pb at hpi hps
          have epn : (pn != pn) = false := by simp
          have epb : (pb != pb) = false := by simp
          have HPI : Hid (∀ wx, Calls Try.prog 23 #[.int .i64 os, .agg #[.int .i64 ox, .int .i64 oy]] wx fun e w' => e = .returned (.tuple #[.int .i64 pn, .bool pb]) ∧ Below wx.heap.size wx w') := hpi
          have HPS : Hid (∀ wx, Calls Try.prog 24 #[.int .i64 os, .agg #[.int .i64 ox, .int .i64 oy]] wx fun e w' => e = .returned (.tuple #[.int .i64 pn, .bool pb]) ∧ Below wx.heap.size wx w') := hps
          clear hpi hps
          go_wp2_with fail
          refine (HPI.out _).mono ?_
          rintro e v9 ⟨rfl, hb⟩
          have hB : Below v8.heap.size v8 v9 := (below_one _ _).trans (hb.mono (by simp))
          have HB_9 : Hid (Below w.heap.size w v9) := HB_8.out.trans (hB.mono HB_8.out.size)
          have XB_9 : Hid (C2 v9 (v6.heap.size) ax ay) := XB_8.out.keep hB
          have XC_9 : Hid (C2 v9 (v7.heap.size) ax ay) := XC_8.out.keep hB
          have XD_9 : Hid (C2 v9 (v8.heap.size) ox oy) := (c2_new v8 ox oy 25 _ rfl).keep hb
          clear hb hB HB_8 XB_8 XC_8
          obtain ⟨XDa, XDb, XDc, XDd⟩ := XD_9.out
          have XDl := XD_9.out.lt
          go_wp2_with fail
          refine (HPS.out _).mono ?_
          clear XDa XDb XDc XDd XDl
          rintro e v10 ⟨rfl, hb⟩
          have hB : Below v9.heap.size v9 v10 := hb
          have HB_10 : Hid (Below w.heap.size w v10) := HB_9.out.trans (hB.mono HB_9.out.size)
          have XB_10 : Hid (C2 v10 (v6.heap.size) ax ay) := XB_9.out.keep hB
          have XC_10 : Hid (C2 v10 (v7.heap.size) ax ay) := XC_9.out.keep hB
          clear hb hB HB_9 XB_9 XC_9 XD_9
          have heq : ∀ wx : World, (binOp .neq 25 (.agg #[.int .i64 ax, .int .i64 ay]) (.agg #[.int .i64 ax, .int .i64 ay])).run Try.prog wx = .ok (.bool false) wx := fun wx => by rw [run_neq_sealed]; simp
          obtain ⟨XBa, XBb, XBc, XBd⟩ := XB_10.out
          have XBl := XB_10.out.lt
          obtain ⟨XCa, XCb, XCc, XCd⟩ := XC_10.out
          have XCl := XC_10.out.lt
          cases lb
          · go_wp2
            go_ret
            exact ⟨rfl, HB_10.out⟩
          · obtain ⟨kn, hkn, hk100, hkm⟩ := HLT.out rfl
            subst hkn
            have hpo := fun wx => implPower_c 4 (kn : Int) wx
            have hpb : powB 4 (kn : Int) = true := by simp [powB]; omega
            rw [hpb, if_pos rfl, Int.toNat_natCast, hkm] at hpo
            have elm : (lm == lm) = true := by simp
            have HPO : Hid (∀ wx, Calls Try.prog 25 #[.int .i64 4, .int .i64 kn] wx fun e w' => e = .returned (.tuple #[.int .i64 lm, .bool true]) ∧ w' = wx) := hpo
            clear hpo hpb hkm
            go_wp2_with fail
            refine (HPO.out _).mono ?_
            rintro e w' ⟨rfl, hw⟩
            subst w'
            go_wp2
            go_ret
            exact ⟨rfl, HB_10.out⟩
        · have hwo : wv = o1 := HEQ.out rfl
          subst hwo
          clear HEQ
          have HB_0 : Hid (Below w.heap.size w W) := HB
          go_wp2_with fail
          refine (drawOpenSum_c bo m d _ hm (HM.out.later HB_0.out HB_0.out.size)).mono ?_
          rintro e v1 ⟨sx, sy, pa, pq, pc, pl, top0, rfl, hpq, hpl, hpr, hb⟩
          have hB : Below W.heap.size W v1 := hb
          have HB_1 : Hid (Below w.heap.size w v1) := HB_0.out.trans (hB.mono HB_0.out.size)
          have PR_1 : Hid (Rd v1 pa pl) := hpr
          clear hb hB HB_0
          have HPL : Hid (pl.length = pq) := hpl
          clear hpl hpr
          have hsi := fun wx h => implSum_c sx sy pa pq pc pl top0 wx HPL.out (by omega) h
          have hss := fun wx h => specSum_c sx sy pa pq pc pl top0 wx HPL.out (by omega) h
          generalize sumI sx sy pl top0 = sn at hsi hss
          generalize sumB sx sy pl top0 = sb at hsi hss
          have esn : (sn != sn) = false := by simp
          have esb : (sb != sb) = false := by simp
          have HSI : Hid (∀ wx, Rd wx pa pl → Calls Try.prog 14 #[.agg #[.int .i64 sx, .int .i64 sy], .slice pa pq pc, .int .i64 top0] wx fun e w' => e = .returned (.tuple #[.int .i64 sn, .bool sb]) ∧ Below wx.heap.size wx w') := hsi
          have HSS : Hid (∀ wx, Rd wx pa pl → Calls Try.prog 15 #[.agg #[.int .i64 sx, .int .i64 sy], .slice pa pq pc, .int .i64 top0] wx fun e w' => e = .returned (.tuple #[.int .i64 sn, .bool sb]) ∧ Below wx.heap.size wx w') := hss
          clear hsi hss
          go_wp2_with fail
          refine (HSI.out _ (PR_1.out.later (below_one _ _))).mono ?_
          rintro e v2 ⟨rfl, hb⟩
          have hB : Below v1.heap.size v1 v2 := (below_one _ _).trans (hb.mono (by simp))
          have HB_2 : Hid (Below w.heap.size w v2) := HB_1.out.trans (hB.mono HB_1.out.size)
          have PR_2 : Hid (Rd v2 pa pl) := PR_1.out.later hB
          have XA_2 : Hid (C2 v2 (v1.heap.size) sx sy) := (c2_new v1 sx sy 25 _ rfl).keep hb
          clear hb hB HB_1 PR_1
          obtain ⟨XAa, XAb, XAc, XAd⟩ := XA_2.out
          have XAl := XA_2.out.lt
          go_wp2_with fail
          refine (HSS.out _ PR_2.out).mono ?_
          clear XAa XAb XAc XAd XAl
          rintro e v3 ⟨rfl, hb⟩
          have hB : Below v2.heap.size v2 v3 := hb
          have HB_3 : Hid (Below w.heap.size w v3) := HB_2.out.trans (hB.mono HB_2.out.size)
          clear hb hB HB_2 PR_2 XA_2
          go_wp2_with fail
          refine (drawLogOf_c bo m d _ hm (HM.out.later HB_3.out HB_3.out.size)).mono ?_
          rintro e v4 ⟨lm, lt, rfl, hb⟩
          have hB : Below v3.heap.size v3 v4 := hb
          have HB_4 : Hid (Below w.heap.size w v4) := HB_3.out.trans (hB.mono HB_3.out.size)
          clear hb hB HB_3
          have hli := fun wx => implLog_c lm lt wx
          have hls := fun wx => specLog_c lm lt wx
          have HLT : Hid (logB lm lt = true → ∃ k : Nat, logI lm lt = k ∧ k ≤ 100 ∧ pw 4 k = lm) := fun h => log_true h
          generalize logI lm lt = ln at hli hls HLT
          generalize logB lm lt = lb at hli hls HLT
          have eln : (ln != ln) = false := by simp
          have elb : (lb != lb) = false := by simp
          have HLI : Hid (∀ wx, Calls Try.prog 17 #[.int .i64 lm, .int .i64 lt] wx fun e w' => e = .returned (.tuple #[.int .i64 ln, .bool lb]) ∧ w' = wx) := hli
          have HLS : Hid (∀ wx, Calls Try.prog 18 #[.int .i64 lm, .int .i64 lt] wx fun e w' => e = .returned (.tuple #[.int .i64 ln, .bool lb]) ∧ w' = wx) := hls
          clear hli hls
          go_wp2_with fail
          refine (HLI.out _).mono ?_
          rintro e w' ⟨rfl, hw⟩
          subst w'
          go_wp2_with fail
          refine (HLS.out _).mono ?_
          rintro e w' ⟨rfl, hw⟩
          subst w'
          go_wp2_with fail
          refine (drawAddVotes_c bo m d _ hm (HM.out.later HB_4.out HB_4.out.size)).mono ?_
          rintro e v5 ⟨va, vq, vc, vl, rfl, hvq, hvl, hvr, hb⟩
          have hB : Below v4.heap.size v4 v5 := hb
          have HB_5 : Hid (Below w.heap.size w v5) := HB_4.out.trans (hB.mono HB_4.out.size)
          have VR_5 : Hid (RdP v5 va vl) := hvr
          clear hb hB HB_4
          have HVL : Hid (vl.length = vq) := hvl
          clear hvl hvr
          have hvi := fun wx h => implVotes_c va vq vc vl wx HVL.out (by omega) h
          have hvs := fun wx h => specVotes_c va vq vc vl wx HVL.out (by omega) h
          generalize addXI vl = ax at hvi hvs
          generalize addYI vl = ay at hvi hvs
          generalize addB vl = ab at hvi hvs
          have eab : (ab != ab) = false := by simp
          have HVI : Hid (∀ wx, RdP wx va vl → Calls Try.prog 20 #[.slice va vq vc] wx fun e w' => e = .returned (.tuple #[.agg #[.int .i64 ax, .int .i64 ay], .bool ab]) ∧ Below wx.heap.size wx w') := hvi
          have HVS : Hid (∀ wx, RdP wx va vl → Calls Try.prog 21 #[.slice va vq vc] wx fun e w' => e = .returned (.tuple #[.agg #[.int .i64 ax, .int .i64 ay], .bool ab]) ∧ Below wx.heap.size wx w') := hvs
          clear hvi hvs
          go_wp2_with fail
          refine (HVI.out _ VR_5.out).mono ?_
          rintro e v6 ⟨rfl, hb⟩
          have hB : Below v5.heap.size v5 v6 := hb
          have HB_6 : Hid (Below w.heap.size w v6) := HB_5.out.trans (hB.mono HB_5.out.size)
          have VR_6 : Hid (RdP v6 va vl) := VR_5.out.later hB
          clear hb hB HB_5 VR_5
          go_wp2_with fail
          refine (HVS.out _ (VR_6.out.later (below_one _ _))).mono ?_
          rintro e v7 ⟨rfl, hb⟩
          have hB : Below v6.heap.size v6 v7 := (below_one _ _).trans (hb.mono (by simp))
          have HB_7 : Hid (Below w.heap.size w v7) := HB_6.out.trans (hB.mono HB_6.out.size)
          have XB_7 : Hid (C2 v7 (v6.heap.size) ax ay) := (c2_new v6 ax ay 25 _ rfl).keep hb
          clear hb hB HB_6 VR_6
          go_wp2_with fail
          refine (drawOpenPart_c bo m d _ hm (HM.out.later (HB_7.out.alloc HB_7.out.size _) (by have := HB_7.out.size; simp; omega))).mono ?_
          rintro e v8 ⟨os, ox, oy, rfl, hb⟩
          have hB : Below v7.heap.size v7 v8 := (below_one _ _).trans (hb.mono (by simp))
          have HB_8 : Hid (Below w.heap.size w v8) := HB_7.out.trans (hB.mono HB_7.out.size)
          have XB_8 : Hid (C2 v8 (v6.heap.size) ax ay) := XB_7.out.keep hB
          have XC_8 : Hid (C2 v8 (v7.heap.size) ax ay) := (c2_new v7 ax ay 25 _ rfl).keep hb
          clear hb hB HB_7 XB_7
          have hpi := fun wx => implPart_c os ox oy wx
          have hps := fun wx => specPart_c os ox oy wx
          generalize partI os ox oy = pn at hpi hps
          generalize openB os ox oy = pb at hpi hps
          have epn : (pn != pn) = false := by simp
          have epb : (pb != pb) = false := by simp
          have HPI : Hid (∀ wx, Calls Try.prog 23 #[.int .i64 os, .agg #[.int .i64 ox, .int .i64 oy]] wx fun e w' => e = .returned (.tuple #[.int .i64 pn, .bool pb]) ∧ Below wx.heap.size wx w') := hpi
          have HPS : Hid (∀ wx, Calls Try.prog 24 #[.int .i64 os, .agg #[.int .i64 ox, .int .i64 oy]] wx fun e w' => e = .returned (.tuple #[.int .i64 pn, .bool pb]) ∧ Below wx.heap.size wx w') := hps
          clear hpi hps
          go_wp2_with fail
          refine (HPI.out _).mono ?_
          rintro e v9 ⟨rfl, hb⟩
          have hB : Below v8.heap.size v8 v9 := (below_one _ _).trans (hb.mono (by simp))
          have HB_9 : Hid (Below w.heap.size w v9) := HB_8.out.trans (hB.mono HB_8.out.size)
          have XB_9 : Hid (C2 v9 (v6.heap.size) ax ay) := XB_8.out.keep hB
          have XC_9 : Hid (C2 v9 (v7.heap.size) ax ay) := XC_8.out.keep hB
          have XD_9 : Hid (C2 v9 (v8.heap.size) ox oy) := (c2_new v8 ox oy 25 _ rfl).keep hb
          clear hb hB HB_8 XB_8 XC_8
          obtain ⟨XDa, XDb, XDc, XDd⟩ := XD_9.out
          have XDl := XD_9.out.lt
          go_wp2_with fail
          refine (HPS.out _).mono ?_
          clear XDa XDb XDc XDd XDl
          rintro e v10 ⟨rfl, hb⟩
          have hB : Below v9.heap.size v9 v10 := hb
          have HB_10 : Hid (Below w.heap.size w v10) := HB_9.out.trans (hB.mono HB_9.out.size)
          have XB_10 : Hid (C2 v10 (v6.heap.size) ax ay) := XB_9.out.keep hB
          have XC_10 : Hid (C2 v10 (v7.heap.size) ax ay) := XC_9.out.keep hB
          clear hb hB HB_9 XB_9 XC_9 XD_9
          have heq : ∀ wx : World, (binOp .neq 25 (.agg #[.int .i64 ax, .int .i64 ay]) (.agg #[.int .i64 ax, .int .i64 ay])).run Try.prog wx = .ok (.bool false) wx := fun wx => by rw [run_neq_sealed]; simp
          obtain ⟨XBa, XBb, XBc, XBd⟩ := XB_10.out
          have XBl := XB_10.out.lt
          obtain ⟨XCa, XCb, XCc, XCd⟩ := XC_10.out
          have XCl := XC_10.out.lt
          cases lb
          · go_wp2
            go_ret
            exact ⟨rfl, HB_10.out⟩
          · obtain ⟨kn, hkn, hk100, hkm⟩ := HLT.out rfl
            subst hkn
            have hpo := fun wx => implPower_c 4 (kn : Int) wx
            have hpb : powB 4 (kn : Int) = true := by simp [powB]; omega
            rw [hpb, if_pos rfl, Int.toNat_natCast, hkm] at hpo
            have elm : (lm == lm) = true := by simp
            have HPO : Hid (∀ wx, Calls Try.prog 25 #[.int .i64 4, .int .i64 kn] wx fun e w' => e = .returned (.tuple #[.int .i64 lm, .bool true]) ∧ w' = wx) := hpo
            clear hpo hpb hkm
            go_wp2_with fail
            refine (HPO.out _).mono ?_
            rintro e w' ⟨rfl, hw⟩
            subst w'
            go_wp2
            go_ret
            exact ⟨rfl, HB_10.out⟩

end Go.Proofs.Ytobomcmjilcnaaa
