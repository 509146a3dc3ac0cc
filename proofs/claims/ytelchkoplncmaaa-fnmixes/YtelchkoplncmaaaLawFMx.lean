/- The law FnMixes, walked: true at every two texts of bytes. -/
import Derived.Test.YtelchkoplncmaaaFM8
namespace Go.Proofs.Ytelchkoplncmaaa
set_option linter.unusedVariables false
set_option maxRecDepth 1000000
set_option linter.unusedSimpArgs false
open Go.RowKit

set_option maxHeartbeats 16000000 in
set_option maxRecDepth 1000000 in
theorem lawFnMixes_c (ao : Option Addr) (n c : Nat) (bo : Option Addr) (m d : Nat) (w : World) (hn : n ≤ 9223372036854775807) (hm : m ≤ 9223372036854775807) (h1 : CodeOk w w.heap.size ao n) (h2 : CodeOk w w.heap.size bo m) :
    Calls Try.prog 3 #[.slice ao n c, .slice bo m d] w fun e w' => e = .returned (.bool true) ∧ Below w.heap.size w w' := by
  by_cases hl : 1048576 < wrap64 ((n : Int) + (m : Int))
  · clear h1 h2
    go_enter Try.func3, Try.ntmps3
    go_wp2
    go_ret
    exact ⟨rfl, Below.refl _ _⟩
  have HN : Hid (CodeOk w w.heap.size ao n) := h1
  have HM : Hid (CodeOk w w.heap.size bo m) := h2
  clear h1 h2
  go_enter Try.func3, Try.ntmps3
  go_wp2_with fail
  refine (drawPlay_c ao n c _ hn HN.out).mono ?_
  rintro e w1 ⟨i0, i1, xa, q, xc, xss, rfl, hxq, hq21, hxl, hxo, hb1⟩
  have HX : Hid (xss.length = q) := hxq
  have HL : Hid (∀ l ∈ xss, l.length ≤ 4 ∧ ∀ s ∈ l, s.size ≤ 25) := fun l hl => ⟨(hxl l hl).1, fun s hs => ((hxl l hl).2 s hs).size⟩
  have HLS : Hid (∀ l ∈ xss, l.length ≤ 1048576 ∧ ∀ s ∈ l, s.size ≤ 9223372036854775807) := fun l hl => ⟨by have := (HL.out l hl).1; omega, fun s hs => by have := (HL.out l hl).2 s hs; omega⟩
  have HR1 : Hid (RdSS w1 xa xss) := hxo.rd'
  have HB1 : Hid (Below w.heap.size w w1) := hb1
  obtain ⟨zss, fb, hF⟩ : ∃ zss fb, playF i0 i1 xss = (zss, fb) := ⟨_, _, rfl⟩
  obtain ⟨p, hp⟩ : ∃ p, zss.length = p := ⟨_, rfl⟩
  have hp20 : p ≤ 20 := by have := (playF_small hF).1; omega
  have HZL : Hid (∀ l ∈ zss, l.length ≤ 1048576) := (playF_small hF).2
  have HP : Hid (zss.length = p) := hp
  have HF : Hid (playF i0 i1 xss = (zss, fb)) := hF
  have hfb : (fb != fb) = false := by simp
  have hpp : ((p : Int) != (p : Int)) = false := by simp
  clear hxq hxl hxo hb1 hF hp
  go_wp2_with fail
  refine (implPlay_c xa q xc i0 i1 xss w1 HX.out (by omega) HR1.out HLS.out zss fb p HF.out HP.out).mono ?_
  rintro e w2 ⟨oa, oc, rfl, ho2, hb2⟩
  have HB2 : Hid (Below w.heap.size w w2) := HB1.out.trans (hb2.mono HB1.out.size)
  have HR2 : Hid (RdSS w2 xa xss) := HR1.out.later hb2
  have HO2 : Hid (RdSS w2 oa zss) := ho2.rd'
  clear ho2 hb2 HB1 HR1
  go_wp2_with fail
  refine (specPlay_c xa q xc i0 i1 xss w2 HX.out (by omega) HR2.out HLS.out zss fb p HF.out HP.out).mono ?_
  rintro e w3 ⟨za, zc, rfl, ho3, hb3⟩
  have HB3 : Hid (Below w.heap.size w w3) := HB2.out.trans (hb3.mono HB2.out.size)
  have HR3 : Hid (RdSS w3 xa xss) := HR2.out.later hb3
  have HO3 : Hid (RdSS w3 oa zss) := HO2.out.later hb3
  have HZ3 : Hid (RdSS w3 za zss) := ho3.rd'
  clear ho3 hb3 HB2 HR2 HO2
  go_wp2
  have HB0 : Hid (Below w3.heap.size w3 w3) := Below.refl _ _
  go_loopw [81] (fun iv wr => ∃ k : Nat, k ≤ p ∧ iv = .int .i64 k ∧ Hid (Below w3.heap.size w3 wr)) (fun iv _ => p - (intOf iv).toNat)
  case atStart => exact ⟨0, Nat.zero_le _, rfl, HB0⟩
  case round =>
    clear HB0
    obtain ⟨k, hk, rfl, HB⟩ := hrel
    by_cases hlt : k < p
    · have hkl : k < zss.length := by rw [HP.out]; exact hlt
      obtain ⟨b, o, ro, rc, rfl, g1, hro⟩ := (HO3.out.later HB.out).get hkl
      obtain ⟨b', o', so, sc, rfl, g2, hso⟩ := (HZ3.out.later HB.out).get hkl
      have hlk := HZL.out _ (mem_getD [] hkl)
      have k0 : (0 : Int) ≤ (k : Int) := by omega
      have k1 : (k : Int) < (p : Int) := by omega
      generalize zss.getD k [] = row at g1 g2 hro hso hlk
      obtain ⟨rn, hrn⟩ : ∃ rn, row.length = rn := ⟨_, rfl⟩
      rw [hrn] at g1 g2 hlk
      have HQ : Hid (∀ wx, Below wr.heap.size wr wx → Calls Try.prog 16 #[.slice ro rn rc, .slice so rn sc] wx fun e w' => e = .returned (.bool true) ∧ Below wx.heap.size wx w') := fun wx h => by
        have q := sameTexts_c ro so rn rn rc sc row row wx hrn hrn (by omega) (by omega) (hro.later h) (hso.later h)
        rw [decide_eq_true rfl] at q; exact q
      clear hkl hlk hrn hro hso
      go_wp2
      go_region_with (go_at_call 16; refine (HQ.out _ (by first | exact Below.refl _ _ | exact (Below.refl _ _).drew)).mono ?_; rintro e wq ⟨rfl, hb1⟩; have HB1 : Hid (Below w3.heap.size w3 wq) := (by first | exact HB.out.trans (hb1.mono HB.out.size) | exact HB.out.drew.trans (hb1.mono HB.out.size)); clear hb1)
      all_goals go_wp2
      all_goals exact ⟨⟨k + 1, by omega, by go_num, HB1⟩, by simp [intOf]; omega⟩
    · obtain rfl : p = k := by omega
      have hkk : ¬ (p : Int) < (p : Int) := by omega
      have HT0 : Hid (TT wr w3.heap.size (.slice none 0 0) (.slice none 0 0) []) := TT.nil _ _
      go_wp2
      go_loopw [13, 14, 15, 97] (fun av tv sv kv wr => ∃ (k lp : Nat) (ap : Bool) (L : List ByteArray), k ≤ q ∧ lp ≤ 4 * k ∧ kv = .int .i64 k ∧ av = .bool ap ∧ Hid (L.length = lp) ∧ Hid (L = (xss.take k).flatten) ∧ Hid (TT wr w3.heap.size tv sv L) ∧ Hid (ap = true → Ap L) ∧ Hid (Below w3.heap.size w3 wr)) (fun _ _ _ kv _ => q - (intOf kv).toNat)
      case atStart => exact ⟨0, 0, true, [], Nat.zero_le _, Nat.zero_le _, rfl, rfl, rfl, by show _ = _; simp, HT0, (fun _ => ⟨fun s hs => absurd hs (by simp), fun s hs => absurd hs (by simp)⟩), HB⟩
      case round =>
        clear HT0 HB
        obtain ⟨k, lp, ap, L, hkq, hlp, rfl, rfl, HLP, HLL, HTT, HA, HB⟩ := hrel
        by_cases hlt : k < q
        · have hkl : k < xss.length := by rw [HX.out]; exact hlt
          obtain ⟨b, o, ro, rc, hxa, g3, hro⟩ := HR3.out.get hkl
          subst hxa
          have hrl := HL.out _ (mem_getD [] hkl)
          have k0 : (0 : Int) ≤ (k : Int) := by omega
          have k1 : (k : Int) < (q : Int) := by omega
          obtain ⟨row, hrow⟩ : ∃ row, xss.getD k [] = row := ⟨_, rfl⟩
          rw [hrow] at g3 hro hrl
          have HFL : Hid ((xss.take (k + 1)).flatten = (xss.take k).flatten ++ row) := by show _ = _; rw [take_snoc [] hkl, hrow]; simp
          obtain ⟨rn, hrn⟩ : ∃ rn, row.length = rn := ⟨_, rfl⟩
          rw [hrn] at g3 hrl
          have g1 : wr.cell? ⟨b, o + k, none⟩ = some (.slice ro rn rc) := by rw [HB.out.cell (p := ⟨b, o + k, none⟩) (World.block_lt_of_cell? _ _ g3)]; exact g3
          have HRN : Hid (row.length = rn) := hrn
          have hrn4 : rn ≤ 4 := hrl.1
          have HRS : Hid (∀ s ∈ row, s.size ≤ 25) := hrl.2
          have HRO : Hid (RdS w3 ro row) := hro
          have HLL0 : Hid (L = (xss.take k).flatten ++ row.take 0) := by show _ = _; rw [List.take_zero, List.append_nil]; exact HLL.out
          clear hkl hrl hrow hrn hro HLL g3
          go_wp2
          clear g1
          go_loopw [13, 14, 15, 103] (fun av tv sv jv ws => ∃ (j lp : Nat) (ap : Bool) (L : List ByteArray), j ≤ rn ∧ lp ≤ 4 * k + j ∧ jv = .int .i64 j ∧ av = .bool ap ∧ Hid (L.length = lp) ∧ Hid (L = (xss.take k).flatten ++ row.take j) ∧ Hid (TT ws w3.heap.size tv sv L) ∧ Hid (ap = true → Ap L) ∧ Hid (Below w3.heap.size w3 ws)) (fun _ _ _ jv _ => rn - (intOf jv).toNat)
          case atStart => exact ⟨0, lp, ap, L, Nat.zero_le _, by omega, rfl, rfl, HLP, HLL0, HTT, HA, HB⟩
          case round =>
            clear HLP HLL0 HTT HA HB
            obtain ⟨j, lp, ap, L, hjr, hlp, rfl, rfl, HLP, HLL, HTT, HA, HB⟩ := hrel
            obtain ⟨ta, tc, sa, sc, e1, e2⟩ := HTT.out.shape HLP.out
            subst e1 e2
            have hlp2 : lp ≤ 100 := by omega
            by_cases hjl : j < rn
            · have hjl' : j < row.length := by rw [HRN.out]; exact hjl
              obtain ⟨b', o', hro, g2⟩ := (HRO.out.later HB.out).get hjl'
              subst hro
              have hs25 := HRS.out _ (mem_getD ByteArray.empty hjl')
              obtain ⟨s, hs⟩ : ∃ s, row.getD j ByteArray.empty = s := ⟨_, rfl⟩
              rw [hs] at g2 hs25
              have HSJ : Hid (row.getD j ByteArray.empty = s) := hs
              have HJR : Hid (j < row.length) := hjl'
              have j0 : (0 : Int) ≤ (j : Int) := by omega
              have j1 : (j : Int) < (rn : Int) := by omega
              obtain ⟨t, tb, hT⟩ : ∃ t tb, tagF s = (t, tb) := ⟨_, _, rfl⟩
              have HTS : Hid (tagT s = t) := by show _ = _; unfold tagT; rw [hT]
              have q1 := implTag_c s wr (by omega) t tb hT
              have HTF : Hid (tagF s = (t, tb)) := hT
              clear hs hjl' hT
              go_wp2_with fail
              refine q1.mono ?_
              clear q1
              rintro e w' ⟨rfl, hw⟩
              subst w'
              cases tb with
              | true =>
                have H4 : Hid (ap = true → Met L s 0) := fun e => ⟨HA.out e, tagF_short HTF.out, fun j hj => absurd hj (by omega)⟩
                clear HA HTF g2
                go_wp2
                go_loop [13, 116] (fun av iv => ∃ (i : Nat) (ap : Bool), i ≤ lp ∧ iv = .int .i64 i ∧ av = .bool ap ∧ Hid (ap = true → Met L s i)) (fun _ iv => lp - (intOf iv).toNat)
                case atStart => exact ⟨0, ap, Nat.zero_le _, rfl, rfl, H4⟩
                case round =>
                  clear H4
                  obtain ⟨i, ap, hi, rfl, rfl, HI⟩ := hrel
                  by_cases hil : i < lp
                  · obtain ⟨b1, o1, b2, o2, rfl, rfl, g1, g2⟩ := HTT.out.get hil
                    have k0 : (0 : Int) ≤ (i : Int) := by omega
                    have k1 : (i : Int) < (lp : Int) := by omega
                    obtain ⟨x, hx⟩ : ∃ x, L.getD i ByteArray.empty = x := ⟨_, rfl⟩
                    rw [hx] at g1 g2
                    have HXI : Hid (L.getD i ByteArray.empty = x) := hx
                    clear hx
                    by_cases hxs : x = s
                    · have ht : (x.toList == s.toList) = true := by rw [hxs]; simp
                      have HI2 : Hid (ap = true → Met L s (i + 1)) := fun e => (HI.out e).step (fun h => absurd (HXI.out.trans hxs) h)
                      generalize tagT x = tx at g1
                      clear HI HXI hxs
                      go_wp2
                      go_round
                      case rel => exact ⟨i + 1, ap, by omega, by go_num, rfl, HI2⟩
                      case measure => simp [intOf]; omega
                    · have ht : (x.toList == s.toList) = false := by rw [beq_eq_false_iff_ne]; exact fun h => hxs (tl_inj h)
                      by_cases htg : tagT x = t
                      · have hte : (tagT x == t) = true := by rw [htg]; simp
                        generalize tagT x = tx at g1 hte
                        have HI2 : Hid (false = true → Met L s (i + 1)) := fun e => by cases e
                        clear HI HXI htg hxs
                        go_wp2
                        go_round
                        case rel => exact ⟨i + 1, false, by omega, by go_num, rfl, HI2⟩
                        case measure => simp [intOf]; omega
                      · have hte : (tagT x == t) = false := by rw [beq_eq_false_iff_ne]; exact htg
                        have HI2 : Hid (ap = true → Met L s (i + 1)) := fun e => (HI.out e).step (fun _ => by rw [HXI.out, HTS.out]; exact htg)
                        generalize tagT x = tx at g1 hte
                        clear HI HXI htg hxs
                        go_wp2
                        go_round
                        case rel => exact ⟨i + 1, ap, by omega, by go_num, rfl, HI2⟩
                        case measure => simp [intOf]; omega
                  · obtain rfl : i = lp := by omega
                    have k1 : ¬ (i : Int) < (i : Int) := by omega
                    obtain ⟨a1, c1, wx, a2, c2, wy, r1, r2, ott, bwy⟩ := TT_run (wr := wr) s HB.out.size HLP.out (by omega) HTT.out
                    rw [HTS.out] at r2
                    have HT2 : Hid (TT wy w3.heap.size (.slice a2 (i + 1) c2) (.slice a1 (i + 1) c1) (L ++ [s])) := ott
                    have HB2 : Hid (Below w3.heap.size w3 wy) := HB.out.trans bwy
                    have HA2 : Hid (ap = true → Ap (L ++ [s])) := fun e => (HI.out e).ap HLP.out
                    have HL2 : Hid (L ++ [s] = (xss.take k).flatten ++ row.take (j + 1)) := by
                      show _ = _
                      rw [HLL.out, take_snoc ByteArray.empty HJR.out, HSJ.out, List.append_assoc]
                    have HP2 : Hid ((L ++ [s]).length = i + 1) := by show _ = _; rw [List.length_append, HLP.out]; rfl
                    clear ott bwy HTT HB HI HLL
                    go_wp2_with (first | (at_builtin; refine Lib.wpList_append_run _ rfl _ _ _ _ rfl _ _ rfl rfl _ _ (r1 _) ?_; clear r1) | (at_builtin; refine Lib.wpList_append_run _ rfl _ _ _ _ rfl _ _ rfl rfl _ _ (r2 _) ?_; clear r2))
                    go_roundw
                    case rel => exact ⟨j + 1, i + 1, ap, L ++ [s], by omega, by omega, by go_num, rfl, HP2, HL2, HT2, HA2, HB2⟩
                    case measure => simp [intOf]; omega
              | false =>
                have H4 : Hid (false = true → Met L s 0) := fun e => by cases e
                clear HA HTF g2
                go_wp2
                go_loop [13, 116] (fun av iv => ∃ (i : Nat) (ap : Bool), i ≤ lp ∧ iv = .int .i64 i ∧ av = .bool ap ∧ Hid (ap = true → Met L s i)) (fun _ iv => lp - (intOf iv).toNat)
                case atStart => exact ⟨0, false, Nat.zero_le _, rfl, rfl, H4⟩
                case round =>
                  clear H4
                  obtain ⟨i, ap, hi, rfl, rfl, HI⟩ := hrel
                  by_cases hil : i < lp
                  · obtain ⟨b1, o1, b2, o2, rfl, rfl, g1, g2⟩ := HTT.out.get hil
                    have k0 : (0 : Int) ≤ (i : Int) := by omega
                    have k1 : (i : Int) < (lp : Int) := by omega
                    obtain ⟨x, hx⟩ : ∃ x, L.getD i ByteArray.empty = x := ⟨_, rfl⟩
                    rw [hx] at g1 g2
                    have HXI : Hid (L.getD i ByteArray.empty = x) := hx
                    clear hx
                    by_cases hxs : x = s
                    · have ht : (x.toList == s.toList) = true := by rw [hxs]; simp
                      have HI2 : Hid (ap = true → Met L s (i + 1)) := fun e => (HI.out e).step (fun h => absurd (HXI.out.trans hxs) h)
                      generalize tagT x = tx at g1
                      clear HI HXI hxs
                      go_wp2
                      go_round
                      case rel => exact ⟨i + 1, ap, by omega, by go_num, rfl, HI2⟩
                      case measure => simp [intOf]; omega
                    · have ht : (x.toList == s.toList) = false := by rw [beq_eq_false_iff_ne]; exact fun h => hxs (tl_inj h)
                      by_cases htg : tagT x = t
                      · have hte : (tagT x == t) = true := by rw [htg]; simp
                        generalize tagT x = tx at g1 hte
                        have HI2 : Hid (false = true → Met L s (i + 1)) := fun e => by cases e
                        clear HI HXI htg hxs
                        go_wp2
                        go_round
                        case rel => exact ⟨i + 1, false, by omega, by go_num, rfl, HI2⟩
                        case measure => simp [intOf]; omega
                      · have hte : (tagT x == t) = false := by rw [beq_eq_false_iff_ne]; exact htg
                        have HI2 : Hid (ap = true → Met L s (i + 1)) := fun e => (HI.out e).step (fun _ => by rw [HXI.out, HTS.out]; exact htg)
                        generalize tagT x = tx at g1 hte
                        clear HI HXI htg hxs
                        go_wp2
                        go_round
                        case rel => exact ⟨i + 1, ap, by omega, by go_num, rfl, HI2⟩
                        case measure => simp [intOf]; omega
                  · obtain rfl : i = lp := by omega
                    have k1 : ¬ (i : Int) < (i : Int) := by omega
                    obtain ⟨a1, c1, wx, a2, c2, wy, r1, r2, ott, bwy⟩ := TT_run (wr := wr) s HB.out.size HLP.out (by omega) HTT.out
                    rw [HTS.out] at r2
                    have HT2 : Hid (TT wy w3.heap.size (.slice a2 (i + 1) c2) (.slice a1 (i + 1) c1) (L ++ [s])) := ott
                    have HB2 : Hid (Below w3.heap.size w3 wy) := HB.out.trans bwy
                    have HA2 : Hid (ap = true → Ap (L ++ [s])) := fun e => (HI.out e).ap HLP.out
                    have HL2 : Hid (L ++ [s] = (xss.take k).flatten ++ row.take (j + 1)) := by
                      show _ = _
                      rw [HLL.out, take_snoc ByteArray.empty HJR.out, HSJ.out, List.append_assoc]
                    have HP2 : Hid ((L ++ [s]).length = i + 1) := by show _ = _; rw [List.length_append, HLP.out]; rfl
                    clear ott bwy HTT HB HI HLL
                    go_wp2_with (first | (at_builtin; refine Lib.wpList_append_run _ rfl _ _ _ _ rfl _ _ rfl rfl _ _ (r1 _) ?_; clear r1) | (at_builtin; refine Lib.wpList_append_run _ rfl _ _ _ _ rfl _ _ rfl rfl _ _ (r2 _) ?_; clear r2))
                    go_roundw
                    case rel => exact ⟨j + 1, i + 1, ap, L ++ [s], by omega, by omega, by go_num, rfl, HP2, HL2, HT2, HA2, HB2⟩
                    case measure => simp [intOf]; omega
            · obtain rfl : j = rn := by omega
              have j1 : ¬ (j : Int) < (j : Int) := by omega
              have HLL2 : Hid (L = (xss.take (k + 1)).flatten) := by
                show _ = _
                rw [HFL.out, HLL.out, List.take_of_length_le (l := row) (by rw [HRN.out]; exact Nat.le_refl _)]
              clear HLL
              go_wp2
              go_roundw
              case rel => exact ⟨k + 1, lp, ap, L, by omega, by omega, by go_num, rfl, HLP, HLL2, HTT, HA, HB⟩
              case measure => simp [intOf]; omega
        · obtain rfl : k = q := by omega
          have kk : ¬ (k : Int) < (k : Int) := by omega
          obtain ⟨ta, tc, sa, sc, e1, e2⟩ := HTT.out.shape HLP.out
          subst e1 e2
          have HLF : Hid (L = xss.flatten) := by show _ = _; rw [HLL.out, List.take_of_length_le (by rw [HX.out]; exact Nat.le_refl _)]
          clear HTT HLL
          by_cases hyes : (fb = true ∧ ap = true) ∧ lp ≤ 12
          · obtain ⟨⟨hf1, hf2⟩, hl12⟩ := hyes
            subst hf1 hf2
            have hlc : (lp : Int) ≤ 12 := by omega
            have HAP : Hid (playF i0 i1 (xss.map List.reverse) = (zss, true)) := by
              show _ = _
              rw [playF_turned (by rw [← HLF.out]; exact HA.out rfl) (by rw [← HLF.out, HLP.out]; exact hl12)]
              exact HF.out
            clear HLF HLP HA
            go_wp2
            have HU0 : Hid (OwnSS wr w3.heap.size (.slice none 0 0) ((xss.take 0).map List.reverse)) := ⟨[], rfl, World.ownsRow_nil _ _ _ _, (fun j h => absurd h (by simp)), (fun i j _ h => absurd h (by simp))⟩
            go_loopw [24, 154] (fun tv kv wr => ∃ (k' : Nat) (outs : List (List ByteArray)), k' ≤ k ∧ kv = .int .i64 k' ∧ Hid (outs.length = k') ∧ Hid (outs = (xss.take k').map List.reverse) ∧ Hid (OwnSS wr w3.heap.size tv outs) ∧ Hid (Below w3.heap.size w3 wr)) (fun _ kv _ => k - (intOf kv).toNat)
            case atStart => exact ⟨0, _, Nat.zero_le _, rfl, by show _ = _; simp, rfl, HU0, HB⟩
            case round =>
              clear HU0 HB
              obtain ⟨k', outs, hk', rfl, HOL, HOE, HU, HB⟩ := hrel
              by_cases hlt' : k' < k
              · have hkl : k' < xss.length := by rw [HX.out]; exact hlt'
                obtain ⟨b, o, ro, rc, hxa, g3, hro⟩ := HR3.out.get hkl
                subst hxa
                have hrl := HL.out _ (mem_getD [] hkl)
                have k0 : (0 : Int) ≤ (k' : Int) := by omega
                have k1 : (k' : Int) < (k : Int) := by omega
                obtain ⟨row, hrow⟩ : ∃ row, xss.getD k' [] = row := ⟨_, rfl⟩
                rw [hrow] at g3 hro hrl
                have HFL : Hid ((xss.take (k' + 1)).map List.reverse = outs ++ [row.reverse]) := by show _ = _; rw [take_snoc [] hkl, hrow, HOE.out]; simp
                obtain ⟨rn, hrn⟩ : ∃ rn, row.length = rn := ⟨_, rfl⟩
                rw [hrn] at g3 hrl
                have g1 : wr.cell? ⟨b, o + k', none⟩ = some (.slice ro rn rc) := by rw [HB.out.cell (p := ⟨b, o + k', none⟩) (World.block_lt_of_cell? _ _ g3)]; exact g3
                have HRN : Hid (row.length = rn) := hrn
                have hrn4 : rn ≤ 4 := hrl.1
                have HRO : Hid (RdS w3 ro row) := hro
                obtain ⟨wk, hwk⟩ : ∃ wk, wk = wr := ⟨wr, rfl⟩
                have HBK : Hid (Below w3.heap.size w3 wk) := by show Below _ _ _; rw [hwk]; exact HB.out
                have HZ0 : Hid (OwnS wr wk.heap.size (.slice none 0 0) (row.reverse.take 0)) := World.ownsRow_nil _ _ _ _
                have HUL : Hid (OwnSL wk w3.heap.size wk.heap.size u24 outs) := by show OwnSL _ _ _ _ _; rw [hwk]; exact HU.out.lt
                have HBE : Hid (Below wk.heap.size wk wr) := by show Below _ _ _; rw [hwk]; exact Below.refl _ _
                clear hwk
                clear hkl hrl hrow hrn hro g3 HOE HU HB
                go_wp2
                clear g1
                go_loopw [27, 28] (fun xv iv wr => ∃ (j u : Nat) (z : Int), j + u = rn ∧ iv = .int .i64 z ∧ z = (u : Int) - 1 ∧ Hid (OwnS wr wk.heap.size xv (row.reverse.take j)) ∧ Hid (Below wk.heap.size wk wr)) (fun _ iv _ => (intOf iv + 1).toNat)
                case atStart => exact ⟨0, rn, _, by omega, rfl, rfl, HZ0, HBE⟩
                case round =>
                  clear HZ0 HBE
                  obtain ⟨j, u, z, hju, rfl, hz, HXV, HBW⟩ := hrel
                  have hjlen : (row.reverse.take j).length = j := by rw [List.length_take, List.length_reverse, HRN.out]; omega
                  obtain ⟨va, vc, e1⟩ := HXV.out.shape
                  rw [hjlen] at e1
                  subst e1
                  have HJL : Hid ((row.reverse.take j).length = j) := hjlen
                  clear hjlen
                  have HB3W : Hid (Below w3.heap.size w3 wr) := HBK.out.trans (HBW.out.mono HBK.out.size)
                  by_cases hu : 0 < u
                  · obtain ⟨v, rfl⟩ : ∃ v, u = v + 1 := ⟨u - 1, by omega⟩
                    have hzv : z = (v : Int) := by omega
                    have hvl : v < row.length := by rw [HRN.out]; omega
                    obtain ⟨b', o', hro, g2⟩ := (HRO.out.later HB3W.out).get hvl
                    subst hro
                    obtain ⟨s, hs⟩ : ∃ s, row.getD v ByteArray.empty = s := ⟨_, rfl⟩
                    rw [hs] at g2
                    have v0 : 0 ≤ z := by omega
                    have v2 : decide (z ≥ 0) = true := decide_eq_true v0
                    have v1 : z < (rn : Int) := by omega
                    have HZV : Hid (z = (v : Int)) := hzv
                    have v3 : z.toNat = v := by omega
                    rw [← v3] at g2
                    have HSN : Hid (row.reverse.take (j + 1) = row.reverse.take j ++ [s]) := by
                      show _ = _
                      rw [take_snoc ByteArray.empty (show j < row.reverse.length by rw [List.length_reverse, HRN.out]; omega), rev_getD (show j < row.length by rw [HRN.out]; omega), HRN.out, show rn - 1 - j = v by omega, hs]
                    have bA := balloc wr (.cells #[.string s] 9)
                    obtain ⟨v7, w7, r1, o7, g7, b7⟩ := appendS_run (wr.alloc (.cells #[.string s] 9)) wk.heap.size (.slice va j vc) (row.reverse.take j) [s] (some ⟨wr.heap.size, 0, none⟩) 1 1 (HXV.out.later bA) (litS wr s) rfl (fun e => by cases e) (by rw [HJL.out]; omega) (Nat.le_trans HBW.out.size bA.size)
                    have HX7 : Hid (OwnS w7 wk.heap.size v7 (row.reverse.take (j + 1))) := by show OwnS _ _ _ _; rw [HSN.out]; exact o7
                    have HB7 : Hid (Below wk.heap.size wk w7) := (HBW.out.alloc HBW.out.size _).trans b7
                    clear o7 g7 b7 bA HXV HBW HSN hs hvl HJL HB3W v3 hzv hz
                    go_wp2_with (at_builtin; refine Lib.wpList_append_run _ rfl _ _ _ _ rfl _ _ rfl rfl _ _ (r1 _) ?_; clear r1)
                    go_roundw
                    case rel => exact ⟨j + 1, v, (v : Int) - 1, by omega, by first | rfl | (rw [HZV.out]; rfl) | (rw [HZV.out]; go_num) | (have := HZV.out; go_num), rfl, HX7, HB7⟩
                    case measure => have := HZV.out; simp [intOf]; omega
                  · obtain rfl : u = 0 := by omega
                    obtain rfl : j = rn := by omega
                    have v2 : decide (z ≥ 0) = false := decide_eq_false (by omega)
                    have v4 : z < 0 := by omega
                    clear hz
                    have HXR : OwnS wr wk.heap.size (.slice va j vc) row.reverse := by have h := HXV.out; rw [List.take_of_length_le (by rw [List.length_reverse, HRN.out]; exact Nat.le_refl _)] at h; exact h
                    obtain ⟨v8, w8, r2, o8, g8, b8⟩ := appendSS_run wr w3.heap.size wk.heap.size u24 (.slice va j vc) outs row.reverse (HUL.out.later HBW.out) HXR HBK.out.size HB3W.out.size (by rw [HOL.out]; omega)
                    obtain ⟨a8, c8, hv8⟩ := o8.shape
                    rw [show (outs ++ [row.reverse]).length = k' + 1 by rw [List.length_append, HOL.out]; rfl] at hv8
                    subst hv8
                    have HO8 : Hid (OwnSS w8 w3.heap.size (.slice a8 (k' + 1) c8) (outs ++ [row.reverse])) := o8
                    have HL8 : Hid ((outs ++ [row.reverse]).length = k' + 1) := by show _ = _; rw [List.length_append, HOL.out]; rfl
                    have HE8 : Hid (outs ++ [row.reverse] = (xss.take (k' + 1)).map List.reverse) := HFL.out.symm
                    have HB8 : Hid (Below w3.heap.size w3 w8) := (HB3W.out.alloc HB3W.out.size _).trans b8
                    clear o8 g8 b8 HXR HXV HBW HUL HOL HFL HB3W HJL
                    go_wp2_with (at_builtin; refine Lib.wpList_append_run _ rfl _ _ _ _ rfl _ _ rfl rfl _ _ (r2 _) ?_; clear r2)
                    go_roundw
                    case rel => exact ⟨k' + 1, outs ++ [row.reverse], by omega, by go_num, HL8, HE8, HO8, HB8⟩
                    case measure => simp [intOf]; omega
              · obtain rfl : k' = k := by omega
                have kk' : ¬ (k' : Int) < (k' : Int) := by omega
                have HE : Hid (outs = xss.map List.reverse) := by show _ = _; rw [HOE.out, List.take_of_length_le (by rw [HX.out]; exact Nat.le_refl _)]
                obtain ⟨ua, uc, e1⟩ := HU.out.shape
                rw [HOL.out] at e1
                subst e1
                have HUR : Hid (RdSS wr ua outs) := HU.out.rd'
                have HAQ : Hid (playF i0 i1 outs = (zss, true)) := by show _ = _; rw [HE.out]; exact HAP.out
                have HUS : Hid (∀ l ∈ outs, l.length ≤ 1048576 ∧ ∀ s ∈ l, s.size ≤ 9223372036854775807) := fun l hl => by
                  rw [HE.out] at hl
                  obtain ⟨r, hr, rfl⟩ := List.mem_map.1 hl
                  exact ⟨by rw [List.length_reverse]; exact (HLS.out r hr).1, fun s hs => (HLS.out r hr).2 s (List.mem_reverse.1 hs)⟩
                clear HU HOE HAP
                go_wp2_with fail
                refine (implPlay_c ua k' uc i0 i1 outs wr HOL.out (by omega) HUR.out HUS.out zss true p HAQ.out HP.out).mono ?_
                rintro e w5 ⟨pa, pc, rfl, ho5, hb5⟩
                have HB5 : Hid (Below w3.heap.size w3 w5) := HB.out.trans (hb5.mono HB.out.size)
                have HP5 : Hid (RdSS w5 pa zss) := ho5.rd'
                have HO5 : Hid (RdSS w5 oa zss) := HO3.out.later HB5.out
                have HBW5 : Hid (Below w.heap.size w w5) := HB3.out.trans (HB5.out.mono HB3.out.size)
                have HB0 : Hid (Below w5.heap.size w5 w5) := Below.refl _ _
                clear ho5 hb5 HB HUR HUS HAQ HE HOL
                go_wp2
                go_loopw [195] (fun iv wr => ∃ k : Nat, k ≤ p ∧ iv = .int .i64 k ∧ Hid (Below w5.heap.size w5 wr)) (fun iv _ => p - (intOf iv).toNat)
                case atStart => exact ⟨0, Nat.zero_le _, rfl, HB0⟩
                case round =>
                  clear HB0
                  obtain ⟨k, hk, rfl, HB⟩ := hrel
                  by_cases hlt : k < p
                  · have hkl : k < zss.length := by rw [HP.out]; exact hlt
                    obtain ⟨b, o, ro, rc, rfl, g1, hro⟩ := (HP5.out.later HB.out).get hkl
                    obtain ⟨b', o', so, sc, rfl, g2, hso⟩ := (HO5.out.later HB.out).get hkl
                    have hlk := HZL.out _ (mem_getD [] hkl)
                    have k0 : (0 : Int) ≤ (k : Int) := by omega
                    have k1 : (k : Int) < (p : Int) := by omega
                    generalize zss.getD k [] = row at g1 g2 hro hso hlk
                    obtain ⟨rn, hrn⟩ : ∃ rn, row.length = rn := ⟨_, rfl⟩
                    rw [hrn] at g1 g2 hlk
                    have HQ : Hid (∀ wx, Below wr.heap.size wr wx → Calls Try.prog 16 #[.slice ro rn rc, .slice so rn sc] wx fun e w' => e = .returned (.bool true) ∧ Below wx.heap.size wx w') := fun wx h => by
                      have q := sameTexts_c ro so rn rn rc sc row row wx hrn hrn (by omega) (by omega) (hro.later h) (hso.later h)
                      rw [decide_eq_true rfl] at q; exact q
                    clear hkl hlk hrn hro hso
                    go_wp2
                    go_region_with (go_at_call 16; refine (HQ.out _ (by first | exact Below.refl _ _ | exact (Below.refl _ _).drew)).mono ?_; rintro e wq ⟨rfl, hb1⟩; have HB1 : Hid (Below w5.heap.size w5 wq) := (by first | exact HB.out.trans (hb1.mono HB.out.size) | exact HB.out.drew.trans (hb1.mono HB.out.size)); clear hb1)
                    all_goals go_wp2
                    all_goals exact ⟨⟨k + 1, by omega, by go_num, HB1⟩, by simp [intOf]; omega⟩
                  · obtain rfl : p = k := by omega
                    have hkk : ¬ (p : Int) < (p : Int) := by omega
                    have HBT : Hid (Below w.heap.size w wr) := HBW5.out.trans (HB.out.mono HBW5.out.size)
                    clear HB
                    go_wp2_with fail
                    refine (drawSort_c bo m d _ hm (HM.out.later HBT.out HBT.out.size)).mono ?_
                    rintro e v1 ⟨la, ln, lc, ls, rfl, hln, hl13, hls, hlo, hb1⟩
                    have HV1 : Hid (Below w.heap.size w v1) := HBT.out.trans (hb1.mono HBT.out.size)
                    have HLN : Hid (ls.length = ln) := hln
                    have HLZ : Hid (∀ s ∈ ls, s.size ≤ 9223372036854775807) := fun s hs => by have := hls s hs; omega
                    have HLR : Hid (RdS v1 la ls) := hlo.rd'.2
                    obtain ⟨ys, gb, hG⟩ : ∃ ys gb, sortR ls = (ys, gb) := ⟨_, _, rfl⟩
                    obtain ⟨yn, hyn⟩ : ∃ yn, ys.length = yn := ⟨_, rfl⟩
                    have hy12 : yn ≤ 12 := by have := sortR_short hG; omega
                    have HG : Hid (sortR ls = (ys, gb)) := hG
                    have HYN : Hid (ys.length = yn) := hyn
                    have hgb : (gb == gb) = true := by simp
                    clear hln hls hlo hb1 hG hyn HBT
                    go_wp2_with fail
                    refine (implSort_c la ln lc ls v1 HLN.out (by omega) HLR.out HLZ.out ys gb yn HG.out HYN.out).mono ?_
                    rintro e v2 ⟨sa, sc', rfl, hso, hb1⟩
                    have HV2 : Hid (Below w.heap.size w v2) := HV1.out.trans (hb1.mono HV1.out.size)
                    have HLR2 : Hid (RdS v2 la ls) := HLR.out.later hb1
                    have HS2 : Hid (RdS v2 sa ys) := hso.rd'.2
                    clear hso hb1 HV1 HLR
                    go_wp2_with fail
                    refine (specSort_c la ln lc ls v2 HLN.out (by omega) HLR2.out HLZ.out ys gb yn HG.out HYN.out).mono ?_
                    rintro e v3 ⟨ta, tc', rfl, hto, hb1⟩
                    have HV3 : Hid (Below w.heap.size w v3) := HV2.out.trans (hb1.mono HV2.out.size)
                    have HS3 : Hid (RdS v3 sa ys) := HS2.out.later hb1
                    have HT3 : Hid (RdS v3 ta ys) := hto.rd'.2
                    clear hto hb1 HV2 HLR2 HS2
                    go_wp2_with fail
                    refine (drawSize_c bo m d _ hm (HM.out.later HV3.out HV3.out.size)).mono ?_
                    rintro e v4 ⟨yi, ra, rq, rc', rss, rfl, hrq, hr21, hrl, hro, hb1⟩
                    have HV4 : Hid (Below w.heap.size w v4) := HV3.out.trans (hb1.mono HV3.out.size)
                    have HS4 : Hid (RdS v4 sa ys) := HS3.out.later hb1
                    have HT4 : Hid (RdS v4 ta ys) := HT3.out.later hb1
                    have HRQ : Hid (rss.length = rq) := hrq
                    have HRR : Hid (RdSS v4 ra rss) := hro.rd'
                    obtain ⟨r, kb, hK⟩ : ∃ r kb, sizeF rss yi = (r, kb) := ⟨_, _, rfl⟩
                    have HK : Hid (sizeF rss yi = (r, kb)) := hK
                    have hkb : (kb == kb) = true := by simp
                    have hrr : (r == r) = true := by simp
                    clear hrq hrl hro hb1 hK HV3 HS3 HT3
                    go_wp2_with fail
                    refine (implSize_c ra rq rc' rss yi v4 HRQ.out (by omega) HRR.out r kb HK.out).mono ?_
                    rintro e w' ⟨rfl, hw⟩
                    subst w'
                    go_wp2_with fail
                    refine (specSize_c ra rq rc' rss yi v4 HRQ.out (by omega) HRR.out r kb HK.out).mono ?_
                    rintro e w' ⟨rfl, hw⟩
                    subst w'
                    have qs := sameTexts_c sa ta yn yn sc' tc' ys ys v4 HYN.out HYN.out (by omega) (by omega) HS4.out HT4.out
                    rw [decide_eq_true rfl] at qs
                    go_wp2_with fail
                    refine qs.mono ?_
                    clear qs
                    rintro e v5 ⟨rfl, hb1⟩
                    have HV5 : Hid (Below w.heap.size w v5) := HV4.out.trans (hb1.mono HV4.out.size)
                    clear hb1 HV4 HS4 HT4
                    go_wp2
                    go_ret
                    exact ⟨rfl, HV5.out⟩
          · have HBT : Hid (Below w.heap.size w wr) := HB3.out.trans (HB.out.mono HB3.out.size)
            clear HLF HLP HA HB
            cases fb with
            | false =>
              go_wp2_with fail
              refine (drawSort_c bo m d _ hm (HM.out.later HBT.out HBT.out.size)).mono ?_
              rintro e v1 ⟨la, ln, lc, ls, rfl, hln, hl13, hls, hlo, hb1⟩
              have HV1 : Hid (Below w.heap.size w v1) := HBT.out.trans (hb1.mono HBT.out.size)
              have HLN : Hid (ls.length = ln) := hln
              have HLZ : Hid (∀ s ∈ ls, s.size ≤ 9223372036854775807) := fun s hs => by have := hls s hs; omega
              have HLR : Hid (RdS v1 la ls) := hlo.rd'.2
              obtain ⟨ys, gb, hG⟩ : ∃ ys gb, sortR ls = (ys, gb) := ⟨_, _, rfl⟩
              obtain ⟨yn, hyn⟩ : ∃ yn, ys.length = yn := ⟨_, rfl⟩
              have hy12 : yn ≤ 12 := by have := sortR_short hG; omega
              have HG : Hid (sortR ls = (ys, gb)) := hG
              have HYN : Hid (ys.length = yn) := hyn
              have hgb : (gb == gb) = true := by simp
              clear hln hls hlo hb1 hG hyn HBT
              go_wp2_with fail
              refine (implSort_c la ln lc ls v1 HLN.out (by omega) HLR.out HLZ.out ys gb yn HG.out HYN.out).mono ?_
              rintro e v2 ⟨sa, sc', rfl, hso, hb1⟩
              have HV2 : Hid (Below w.heap.size w v2) := HV1.out.trans (hb1.mono HV1.out.size)
              have HLR2 : Hid (RdS v2 la ls) := HLR.out.later hb1
              have HS2 : Hid (RdS v2 sa ys) := hso.rd'.2
              clear hso hb1 HV1 HLR
              go_wp2_with fail
              refine (specSort_c la ln lc ls v2 HLN.out (by omega) HLR2.out HLZ.out ys gb yn HG.out HYN.out).mono ?_
              rintro e v3 ⟨ta, tc', rfl, hto, hb1⟩
              have HV3 : Hid (Below w.heap.size w v3) := HV2.out.trans (hb1.mono HV2.out.size)
              have HS3 : Hid (RdS v3 sa ys) := HS2.out.later hb1
              have HT3 : Hid (RdS v3 ta ys) := hto.rd'.2
              clear hto hb1 HV2 HLR2 HS2
              go_wp2_with fail
              refine (drawSize_c bo m d _ hm (HM.out.later HV3.out HV3.out.size)).mono ?_
              rintro e v4 ⟨yi, ra, rq, rc', rss, rfl, hrq, hr21, hrl, hro, hb1⟩
              have HV4 : Hid (Below w.heap.size w v4) := HV3.out.trans (hb1.mono HV3.out.size)
              have HS4 : Hid (RdS v4 sa ys) := HS3.out.later hb1
              have HT4 : Hid (RdS v4 ta ys) := HT3.out.later hb1
              have HRQ : Hid (rss.length = rq) := hrq
              have HRR : Hid (RdSS v4 ra rss) := hro.rd'
              obtain ⟨r, kb, hK⟩ : ∃ r kb, sizeF rss yi = (r, kb) := ⟨_, _, rfl⟩
              have HK : Hid (sizeF rss yi = (r, kb)) := hK
              have hkb : (kb == kb) = true := by simp
              have hrr : (r == r) = true := by simp
              clear hrq hrl hro hb1 hK HV3 HS3 HT3
              go_wp2_with fail
              refine (implSize_c ra rq rc' rss yi v4 HRQ.out (by omega) HRR.out r kb HK.out).mono ?_
              rintro e w' ⟨rfl, hw⟩
              subst w'
              go_wp2_with fail
              refine (specSize_c ra rq rc' rss yi v4 HRQ.out (by omega) HRR.out r kb HK.out).mono ?_
              rintro e w' ⟨rfl, hw⟩
              subst w'
              have qs := sameTexts_c sa ta yn yn sc' tc' ys ys v4 HYN.out HYN.out (by omega) (by omega) HS4.out HT4.out
              rw [decide_eq_true rfl] at qs
              go_wp2_with fail
              refine qs.mono ?_
              clear qs
              rintro e v5 ⟨rfl, hb1⟩
              have HV5 : Hid (Below w.heap.size w v5) := HV4.out.trans (hb1.mono HV4.out.size)
              clear hb1 HV4 HS4 HT4
              go_wp2
              go_ret
              exact ⟨rfl, HV5.out⟩
            | true =>
              cases ap with
              | false =>
                go_wp2_with fail
                refine (drawSort_c bo m d _ hm (HM.out.later HBT.out HBT.out.size)).mono ?_
                rintro e v1 ⟨la, ln, lc, ls, rfl, hln, hl13, hls, hlo, hb1⟩
                have HV1 : Hid (Below w.heap.size w v1) := HBT.out.trans (hb1.mono HBT.out.size)
                have HLN : Hid (ls.length = ln) := hln
                have HLZ : Hid (∀ s ∈ ls, s.size ≤ 9223372036854775807) := fun s hs => by have := hls s hs; omega
                have HLR : Hid (RdS v1 la ls) := hlo.rd'.2
                obtain ⟨ys, gb, hG⟩ : ∃ ys gb, sortR ls = (ys, gb) := ⟨_, _, rfl⟩
                obtain ⟨yn, hyn⟩ : ∃ yn, ys.length = yn := ⟨_, rfl⟩
                have hy12 : yn ≤ 12 := by have := sortR_short hG; omega
                have HG : Hid (sortR ls = (ys, gb)) := hG
                have HYN : Hid (ys.length = yn) := hyn
                have hgb : (gb == gb) = true := by simp
                clear hln hls hlo hb1 hG hyn HBT
                go_wp2_with fail
                refine (implSort_c la ln lc ls v1 HLN.out (by omega) HLR.out HLZ.out ys gb yn HG.out HYN.out).mono ?_
                rintro e v2 ⟨sa, sc', rfl, hso, hb1⟩
                have HV2 : Hid (Below w.heap.size w v2) := HV1.out.trans (hb1.mono HV1.out.size)
                have HLR2 : Hid (RdS v2 la ls) := HLR.out.later hb1
                have HS2 : Hid (RdS v2 sa ys) := hso.rd'.2
                clear hso hb1 HV1 HLR
                go_wp2_with fail
                refine (specSort_c la ln lc ls v2 HLN.out (by omega) HLR2.out HLZ.out ys gb yn HG.out HYN.out).mono ?_
                rintro e v3 ⟨ta, tc', rfl, hto, hb1⟩
                have HV3 : Hid (Below w.heap.size w v3) := HV2.out.trans (hb1.mono HV2.out.size)
                have HS3 : Hid (RdS v3 sa ys) := HS2.out.later hb1
                have HT3 : Hid (RdS v3 ta ys) := hto.rd'.2
                clear hto hb1 HV2 HLR2 HS2
                go_wp2_with fail
                refine (drawSize_c bo m d _ hm (HM.out.later HV3.out HV3.out.size)).mono ?_
                rintro e v4 ⟨yi, ra, rq, rc', rss, rfl, hrq, hr21, hrl, hro, hb1⟩
                have HV4 : Hid (Below w.heap.size w v4) := HV3.out.trans (hb1.mono HV3.out.size)
                have HS4 : Hid (RdS v4 sa ys) := HS3.out.later hb1
                have HT4 : Hid (RdS v4 ta ys) := HT3.out.later hb1
                have HRQ : Hid (rss.length = rq) := hrq
                have HRR : Hid (RdSS v4 ra rss) := hro.rd'
                obtain ⟨r, kb, hK⟩ : ∃ r kb, sizeF rss yi = (r, kb) := ⟨_, _, rfl⟩
                have HK : Hid (sizeF rss yi = (r, kb)) := hK
                have hkb : (kb == kb) = true := by simp
                have hrr : (r == r) = true := by simp
                clear hrq hrl hro hb1 hK HV3 HS3 HT3
                go_wp2_with fail
                refine (implSize_c ra rq rc' rss yi v4 HRQ.out (by omega) HRR.out r kb HK.out).mono ?_
                rintro e w' ⟨rfl, hw⟩
                subst w'
                go_wp2_with fail
                refine (specSize_c ra rq rc' rss yi v4 HRQ.out (by omega) HRR.out r kb HK.out).mono ?_
                rintro e w' ⟨rfl, hw⟩
                subst w'
                have qs := sameTexts_c sa ta yn yn sc' tc' ys ys v4 HYN.out HYN.out (by omega) (by omega) HS4.out HT4.out
                rw [decide_eq_true rfl] at qs
                go_wp2_with fail
                refine qs.mono ?_
                clear qs
                rintro e v5 ⟨rfl, hb1⟩
                have HV5 : Hid (Below w.heap.size w v5) := HV4.out.trans (hb1.mono HV4.out.size)
                clear hb1 HV4 HS4 HT4
                go_wp2
                go_ret
                exact ⟨rfl, HV5.out⟩
              | true =>
                have hlc : ¬ (lp : Int) ≤ 12 := fun h => hyes ⟨⟨rfl, rfl⟩, by omega⟩
                go_wp2_with fail
                refine (drawSort_c bo m d _ hm (HM.out.later HBT.out HBT.out.size)).mono ?_
                rintro e v1 ⟨la, ln, lc, ls, rfl, hln, hl13, hls, hlo, hb1⟩
                have HV1 : Hid (Below w.heap.size w v1) := HBT.out.trans (hb1.mono HBT.out.size)
                have HLN : Hid (ls.length = ln) := hln
                have HLZ : Hid (∀ s ∈ ls, s.size ≤ 9223372036854775807) := fun s hs => by have := hls s hs; omega
                have HLR : Hid (RdS v1 la ls) := hlo.rd'.2
                obtain ⟨ys, gb, hG⟩ : ∃ ys gb, sortR ls = (ys, gb) := ⟨_, _, rfl⟩
                obtain ⟨yn, hyn⟩ : ∃ yn, ys.length = yn := ⟨_, rfl⟩
                have hy12 : yn ≤ 12 := by have := sortR_short hG; omega
                have HG : Hid (sortR ls = (ys, gb)) := hG
                have HYN : Hid (ys.length = yn) := hyn
                have hgb : (gb == gb) = true := by simp
                clear hln hls hlo hb1 hG hyn HBT
                go_wp2_with fail
                refine (implSort_c la ln lc ls v1 HLN.out (by omega) HLR.out HLZ.out ys gb yn HG.out HYN.out).mono ?_
                rintro e v2 ⟨sa, sc', rfl, hso, hb1⟩
                have HV2 : Hid (Below w.heap.size w v2) := HV1.out.trans (hb1.mono HV1.out.size)
                have HLR2 : Hid (RdS v2 la ls) := HLR.out.later hb1
                have HS2 : Hid (RdS v2 sa ys) := hso.rd'.2
                clear hso hb1 HV1 HLR
                go_wp2_with fail
                refine (specSort_c la ln lc ls v2 HLN.out (by omega) HLR2.out HLZ.out ys gb yn HG.out HYN.out).mono ?_
                rintro e v3 ⟨ta, tc', rfl, hto, hb1⟩
                have HV3 : Hid (Below w.heap.size w v3) := HV2.out.trans (hb1.mono HV2.out.size)
                have HS3 : Hid (RdS v3 sa ys) := HS2.out.later hb1
                have HT3 : Hid (RdS v3 ta ys) := hto.rd'.2
                clear hto hb1 HV2 HLR2 HS2
                go_wp2_with fail
                refine (drawSize_c bo m d _ hm (HM.out.later HV3.out HV3.out.size)).mono ?_
                rintro e v4 ⟨yi, ra, rq, rc', rss, rfl, hrq, hr21, hrl, hro, hb1⟩
                have HV4 : Hid (Below w.heap.size w v4) := HV3.out.trans (hb1.mono HV3.out.size)
                have HS4 : Hid (RdS v4 sa ys) := HS3.out.later hb1
                have HT4 : Hid (RdS v4 ta ys) := HT3.out.later hb1
                have HRQ : Hid (rss.length = rq) := hrq
                have HRR : Hid (RdSS v4 ra rss) := hro.rd'
                obtain ⟨r, kb, hK⟩ : ∃ r kb, sizeF rss yi = (r, kb) := ⟨_, _, rfl⟩
                have HK : Hid (sizeF rss yi = (r, kb)) := hK
                have hkb : (kb == kb) = true := by simp
                have hrr : (r == r) = true := by simp
                clear hrq hrl hro hb1 hK HV3 HS3 HT3
                go_wp2_with fail
                refine (implSize_c ra rq rc' rss yi v4 HRQ.out (by omega) HRR.out r kb HK.out).mono ?_
                rintro e w' ⟨rfl, hw⟩
                subst w'
                go_wp2_with fail
                refine (specSize_c ra rq rc' rss yi v4 HRQ.out (by omega) HRR.out r kb HK.out).mono ?_
                rintro e w' ⟨rfl, hw⟩
                subst w'
                have qs := sameTexts_c sa ta yn yn sc' tc' ys ys v4 HYN.out HYN.out (by omega) (by omega) HS4.out HT4.out
                rw [decide_eq_true rfl] at qs
                go_wp2_with fail
                refine qs.mono ?_
                clear qs
                rintro e v5 ⟨rfl, hb1⟩
                have HV5 : Hid (Below w.heap.size w v5) := HV4.out.trans (hb1.mono HV4.out.size)
                clear hb1 HV4 HS4 HT4
                go_wp2
                go_ret
                exact ⟨rfl, HV5.out⟩

end Go.Proofs.Ytelchkoplncmaaa
