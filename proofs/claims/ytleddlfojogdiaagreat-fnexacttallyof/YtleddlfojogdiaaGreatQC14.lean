/- Chapter 14: l12Claims of the specification. -/
import Derived.Test.YtleddlfojogdiaaGreatS14
import Derived.Test.YtleddlfojogdiaaGreatLL12
import Derived.Deep.RegionWith
import Derived.Deep.RegionHeld3
import Derived.Lib.SliceRun
import Derived.Deep.RegionHeld3
namespace Go.Proofs.YtleddlfojogdiaaGreat
set_option linter.unusedVariables false
set_option maxRecDepth 1000000
set_option linter.unusedSimpArgs false
open Go.RowKit

set_option maxHeartbeats 16000000 in
theorem l12Claims_c (ao : Option Addr) (n c : Nat) (xs : List St) (w : World) (hx : xs.length = n) (hn : n ≤ 60) (hr : RdS w ao xs) :
    Calls Tryz.prog 67 #[.slice ao n c] w fun e w' => ∃ a' q c', e = .returned (.slice a' q c') ∧ OwnC w' w.heap.size (.slice a' q c') (claimsL xs) ∧ Below w.heap.size w w' := by
  have HX : Hid (xs.length = n) := hx
  have HR : Hid (RdS w ao xs) := hr
  clear hx hr
  go_enter Tryz.func67, Tryz.ntmps67
  go_wp2
  go_loopw [3, 10] (fun ov iv wq => ∃ (j q : Nat) (oa : Option Addr) (oc : Nat), j ≤ n ∧ iv = .int .i64 j ∧ ov = .slice oa q oc ∧ Hid ((claimsL (xs.take j)).length = q) ∧ Hid (OwnC wq w.heap.size (.slice oa q oc) (claimsL (xs.take j))) ∧ Hid (Below w.heap.size w wq)) (fun _ iv _ => n - (intOf iv).toNat)
  case atStart => exact ⟨0, 0, none, 0, Nat.zero_le _, rfl, rfl, rfl, own_nilC _ _, Below.refl _ _⟩
  case round =>
    obtain ⟨j, q, oa, oc, hj, rfl, rfl, HQ, HO, HB⟩ := hrel
    obtain ⟨w0, hw0⟩ : ∃ Y, Y = wr := ⟨_, rfl⟩
    subst hw0
    by_cases hlt : j < n
    · have hjl : j < xs.length := by rw [HX.out]; exact hlt
      have hqj : q ≤ j := by have h1 := (claimsL_all (xs.take j)).2.2; rw [List.length_take] at h1; have := HQ.out; omega
      obtain ⟨b, o, rfl, g0, g1, g2, g3, g4⟩ := (HR.out.later HB.out).get hjl
      have HTK : Hid (claimsL (xs.take (j + 1)) = insC (claimsL (xs.take j)) ((xs.getD j (0, 0, 0, 0, false)).2.1, (xs.getD j (0, 0, 0, 0, false)).2.2.1, (xs.getD j (0, 0, 0, 0, false)).2.2.2.1)) := by show _ = _; rw [take_snocT (d := (0, 0, 0, 0, false)) hjl, claimsL_snoc]; rfl
      have HRIS : Hid (RisC (claimsL (xs.take j))) := (claimsL_all (xs.take j)).1
      generalize (xs.getD j (0, 0, 0, 0, false)).1 = s0 at g0
      generalize (xs.getD j (0, 0, 0, 0, false)).2.1 = s1 at g1 HTK
      generalize (xs.getD j (0, 0, 0, 0, false)).2.2.1 = s2 at g2 HTK
      generalize (xs.getD j (0, 0, 0, 0, false)).2.2.2.1 = s3 at g3 HTK
      generalize (xs.getD j (0, 0, 0, 0, false)).2.2.2.2 = s4 at g4
      have hBv := HB.out.alloc HB.out.size (.cells #[.int .i64 s0, .int .i64 s1, .int .i64 s2, .int .i64 s3, .bool s4] 34)
      have hAv := x5_new w0 (.int .i64 s0) (.int .i64 s1) (.int .i64 s2) (.int .i64 s3) (.bool s4) 34 w0.heap.size rfl
      have hOv := HO.out.later (balloc w0 (.cells #[.int .i64 s0, .int .i64 s1, .int .i64 s2, .int .i64 s3, .bool s4] 34))
      obtain ⟨V, hV⟩ : ∃ V, w0.alloc (.cells #[.int .i64 s0, .int .i64 s1, .int .i64 s2, .int .i64 s3, .bool s4] 34) = V := ⟨_, rfl⟩
      rw [hV] at hBv hAv hOv
      have HBv : Hid (Below w.heap.size w V) := hBv
      have HAv : Hid (X5 V w0.heap.size (.int .i64 s0) (.int .i64 s1) (.int .i64 s2) (.int .i64 s3) (.bool s4)) := hAv
      have HOv : Hid (OwnC V w.heap.size (.slice oa q oc) (claimsL (xs.take j))) := hOv
      have hPq : posC (claimsL (xs.take j)) (s1, s2, s3) ≤ q := by rw [← HQ.out]; exact posC_le _ _
      have HLT : Hid (∀ k, k < posC (claimsL (xs.take j)) (s1, s2, s3) → ltC ((claimsL (xs.take j)).getD k (0, 0, 0)) (s1, s2, s3) = true) := fun k hk => posC_lt hk
      have HAT : Hid (posC (claimsL (xs.take j)) (s1, s2, s3) < q → ltC ((claimsL (xs.take j)).getD (posC (claimsL (xs.take j)) (s1, s2, s3)) (0, 0, 0)) (s1, s2, s3) = false) := fun hk => posC_at (by rw [HQ.out]; exact hk)
      have HIN : Hid (posC (claimsL (xs.take j)) (s1, s2, s3) < q → (claimsL (xs.take j)).getD (posC (claimsL (xs.take j)) (s1, s2, s3)) (0, 0, 0) = (s1, s2, s3) → claimsL (xs.take (j + 1)) = claimsL (xs.take j)) := fun h1 h2 => by rw [HTK.out]; unfold insC; rw [if_pos ((mem_posC HRIS.out).2 ⟨by rw [HQ.out]; exact h1, h2⟩)]
      have HNI : Hid (¬ (posC (claimsL (xs.take j)) (s1, s2, s3) < q ∧ (claimsL (xs.take j)).getD (posC (claimsL (xs.take j)) (s1, s2, s3)) (0, 0, 0) = (s1, s2, s3)) → claimsL (xs.take (j + 1)) = (claimsL (xs.take j)).take (posC (claimsL (xs.take j)) (s1, s2, s3)) ++ [(s1, s2, s3)] ++ (claimsL (xs.take j)).drop (posC (claimsL (xs.take j)) (s1, s2, s3))) := fun h => by
        rw [HTK.out]; unfold insC
        rw [if_neg (fun hm => h (by have h2 := (mem_posC HRIS.out).1 hm; exact ⟨by rw [← HQ.out]; exact h2.1, h2.2⟩))]
      generalize posC (claimsL (xs.take j)) (s1, s2, s3) = P at hPq HLT HAT HIN HNI
      generalize hcs : claimsL (xs.take (j + 1)) = cs at HIN HNI
      have HCS : Hid (claimsL (xs.take (j + 1)) = cs) := hcs
      generalize claimsL (xs.take j) = out at HQ HOv HLT HAT HIN HNI
      clear HTK HRIS HO hBv hAv hOv hcs hjl
      go_wp2_with fail
      clear hV g0 g1 g2 g3 g4
      go_loopw [6] (fun kv wq => ∃ (k : Nat), k ≤ P ∧ kv = .int .i64 k ∧ Hid (Below V.heap.size V wq)) (fun kv _ => P - (intOf kv).toNat)
      case atStart => exact ⟨0, Nat.zero_le _, rfl, Below.refl _ _⟩
      case round =>
        obtain ⟨k, hk, rfl, HBr⟩ := hrel
        obtain ⟨⟨f00, f01, f02, f03, f04⟩, _⟩ := HAv.out.later HBr.out
        by_cases hkh : k < q
        · have hk1 : (k : Int) < (q : Int) := by omega
          obtain ⟨b4, o4, hoa, gk0, gk1, gk2⟩ := (RdC.later HOv.out.rd'.2 HBr.out).get (k := k) (by rw [HQ.out]; exact hkh)
          subst hoa
          have HLTk : Hid (k < P → ltC ((out.getD k (0, 0, 0)).1, (out.getD k (0, 0, 0)).2.1, (out.getD k (0, 0, 0)).2.2) (s1, s2, s3) = true) := HLT.out k
          have HATk : Hid (k = P → ltC ((out.getD k (0, 0, 0)).1, (out.getD k (0, 0, 0)).2.1, (out.getD k (0, 0, 0)).2.2) (s1, s2, s3) = false) := fun e => by have := HAT.out (by omega); rw [← e] at this; exact this
          have HEQ : Hid (k = P → ((out.getD k (0, 0, 0)).1, (out.getD k (0, 0, 0)).2.1, (out.getD k (0, 0, 0)).2.2) = (s1, s2, s3) → cs = out) := fun e h => HIN.out (by omega) (by rw [← e]; exact h)
          have HNE : Hid (k = P → ((out.getD k (0, 0, 0)).1, (out.getD k (0, 0, 0)).2.1, (out.getD k (0, 0, 0)).2.2) ≠ (s1, s2, s3) → cs = out.take P ++ [(s1, s2, s3)] ++ out.drop P) := fun e h => HNI.out (fun h2 => h (by rw [e]; exact h2.2))
          generalize (out.getD k (0, 0, 0)).1 = y1 at gk0 HLTk HATk HEQ HNE
          generalize (out.getD k (0, 0, 0)).2.1 = y2 at gk1 HLTk HATk HEQ HNE
          generalize (out.getD k (0, 0, 0)).2.2 = y3 at gk2 HLTk HATk HEQ HNE
          have HQL0 := fun wx => l12Less_c y1 y2 y3 s1 s2 s3 wx
          by_cases hkP : k < P
          · rw [HLTk.out hkP] at HQL0
            have HQL : Hid (∀ wx, Calls Tryz.prog 84 #[.agg #[.int .i64 y1, .int .i64 y2, .int .i64 y3], .agg #[.int .i64 s1, .int .i64 s2, .int .i64 s3]] wx fun e w' => e = .returned (.bool true) ∧ Below wx.heap.size wx w') := HQL0
            clear HLTk HATk HQL0 HEQ HNE
            go_wp2_with fail
            have HBwrd : Hid (Below V.heap.size V wr.drew) := HBr.out.drew
            go_region_held3 (fun w' => w'.cell? ⟨b4, o4 + k * 3, none⟩ = some (.int .i64 y1) ∧ w'.cell? ⟨b4, o4 + k * 3 + 1, none⟩ = some (.int .i64 y2) ∧ w'.cell? ⟨b4, o4 + k * 3 + 2, none⟩ = some (.int .i64 y3) ∧ w'.cell? ⟨w0.heap.size, 1, none⟩ = some (.int .i64 s1) ∧ w'.cell? ⟨w0.heap.size, 2, none⟩ = some (.int .i64 s2) ∧ w'.cell? ⟨w0.heap.size, 3, none⟩ = some (.int .i64 s3)) (first | go_keep) (first | (go_at_call 84; refine (HQL.out _).mono ?_; rintro e w2 ⟨rfl, hb⟩; have ka0 := cell_keep (S := 0) (w1 := wr.drew) hb gk0; have ka1 := cell_keep (S := 0) (w1 := wr.drew) hb gk1; have ka2 := cell_keep (S := 0) (w1 := wr.drew) hb gk2; have ka3 := cell_keep (S := 0) (w1 := wr.drew) hb f01; have ka4 := cell_keep (S := 0) (w1 := wr.drew) hb f02; have ka5 := cell_keep (S := 0) (w1 := wr.drew) hb f03; have HBw2 : Hid (Below V.heap.size V w2) := HBwrd.out.trans (hb.mono HBwrd.out.size); clear hb))
            all_goals (
              clear f00 f01 f02 f03 f04 gk0 gk1 gk2
              go_wp2
              go_roundw
              case rel => exact ⟨k + 1, by omega, by go_num, HBw2⟩
              case measure => simp [intOf]; omega)
          · obtain rfl : k = P := by omega
            rw [HATk.out rfl] at HQL0
            have HQL : Hid (∀ wx, Calls Tryz.prog 84 #[.agg #[.int .i64 y1, .int .i64 y2, .int .i64 y3], .agg #[.int .i64 s1, .int .i64 s2, .int .i64 s3]] wx fun e w' => e = .returned (.bool false) ∧ Below wx.heap.size wx w') := HQL0
            clear HLTk HATk HQL0
            go_wp2_with fail
            have HBwrd : Hid (Below V.heap.size V wr.drew) := HBr.out.drew
            go_region_held3 (fun w' => w'.cell? ⟨b4, o4 + k * 3, none⟩ = some (.int .i64 y1) ∧ w'.cell? ⟨b4, o4 + k * 3 + 1, none⟩ = some (.int .i64 y2) ∧ w'.cell? ⟨b4, o4 + k * 3 + 2, none⟩ = some (.int .i64 y3) ∧ w'.cell? ⟨w0.heap.size, 1, none⟩ = some (.int .i64 s1) ∧ w'.cell? ⟨w0.heap.size, 2, none⟩ = some (.int .i64 s2) ∧ w'.cell? ⟨w0.heap.size, 3, none⟩ = some (.int .i64 s3)) (first | go_keep) (first | (go_at_call 84; refine (HQL.out _).mono ?_; rintro e w2 ⟨rfl, hb⟩; have ka0 := cell_keep (S := 0) (w1 := wr.drew) hb gk0; have ka1 := cell_keep (S := 0) (w1 := wr.drew) hb gk1; have ka2 := cell_keep (S := 0) (w1 := wr.drew) hb gk2; have ka3 := cell_keep (S := 0) (w1 := wr.drew) hb f01; have ka4 := cell_keep (S := 0) (w1 := wr.drew) hb f02; have ka5 := cell_keep (S := 0) (w1 := wr.drew) hb f03; have HBw2 : Hid (Below V.heap.size V w2) := HBwrd.out.trans (hb.mono HBwrd.out.size); clear hb))
            all_goals (
              clear f00 f01 f02 f03 f04 gk0 gk1 gk2
              go_wp2_with fail
              by_cases he : (y1, y2, y3) = (s1, s2, s3)
              · have hrun : ∀ wx, (binOp .eql 32 (.agg #[.int .i64 y1, .int .i64 y2, .int .i64 y3]) (.agg #[.int .i64 s1, .int .i64 s2, .int .i64 s3])).run Tryz.prog wx = .ok (.bool true) wx := fun wx => by rw [run_eql_cl, decide_eq_true he]
                have HCO : Hid (cs = out) := HEQ.out (by first | rfl | trivial) he
                clear he HEQ HNE
                go_quiet (fail)
                obtain ⟨w3, hw3⟩ : ∃ Y, w2.drewN nq = Y := ⟨_, rfl⟩
                have HBz : Hid (Below V.heap.size V w3) := by rw [← hw3]; exact below_drewM HBw2.out _
                rw [hw3]
                clear hw3 hrun ka0 ka1 ka2 ka3 ka4 ka5
                go_wp2
                go_roundw
                case rel => exact ⟨j + 1, q, some ⟨b4, o4, none⟩, oc, by omega, by go_num, rfl, by show _ = _; rw [HCS.out, HCO.out]; exact HQ.out, by show OwnC _ _ _ _; rw [HCS.out, HCO.out]; exact HOv.out.later HBz.out, HBv.out.trans (HBz.out.mono HBv.out.size)⟩
                case measure => simp [intOf]; omega
              · have hrun : ∀ wx, (binOp .eql 32 (.agg #[.int .i64 y1, .int .i64 y2, .int .i64 y3]) (.agg #[.int .i64 s1, .int .i64 s2, .int .i64 s3])).run Tryz.prog wx = .ok (.bool false) wx := fun wx => by rw [run_eql_cl, decide_eq_false he]
                have HI : Hid (cs = out.take k ++ [(s1, s2, s3)] ++ out.drop k) := HNE.out (by first | rfl | trivial) he
                have HZL : Hid (cs.length = q + 1) := by show _ = _; rw [HI.out]; simp only [List.length_append, List.length_take, List.length_drop, List.length_cons, List.length_nil]; have := HQ.out; omega
                clear he HEQ HNE
                go_quiet (fail)
                obtain ⟨w3, hw3⟩ : ∃ Y, w2.drewN nq = Y := ⟨_, rfl⟩
                have HBz : Hid (Below V.heap.size V w3) := by rw [← hw3]; exact below_drewM HBw2.out _
                have HOW : Hid (OwnC w3 w.heap.size (.slice (some ⟨b4, o4, none⟩) q oc) out) := HOv.out.later HBz.out
                have HBW : Hid (Below w.heap.size w w3) := HBv.out.trans (HBz.out.mono HBv.out.size)
                rw [hw3]
                clear hw3 hrun ka0 ka1 ka2 ka3 ka4 ka5
                have ho := HOW.out
                have hcap := ho.cap
                have hq2 := HQ.out
                have hPc : k ≤ oc := by omega
                have hPc2 : (k : Int) ≤ (oc : Int) := by omega
                have hPc3 : (k : Int) ≤ (q : Int) := by omega
                have hE := emptyC w3
                have hBE : Below w3.heap.size w3 (w3.alloc (.cells #[] 32)) := balloc w3 _
                obtain ⟨E, hEe⟩ : ∃ E, w3.alloc (.cells #[] 32) = E := ⟨_, rfl⟩
                rw [hEe] at hE hBE
                obtain ⟨v1, e1, r1, o1, g1, b1⟩ := appendC_run E w3.heap.size _ [] (out.take k) (some ⟨b4, o4, none⟩) k oc hE ((ho.front k).later hBE) (by rw [List.length_take]; omega) (fun e => by obtain ⟨h1, h2⟩ := ho.nil e; omega) (by simp; omega) hBE.size
                rw [List.nil_append] at o1
                have hB1 : Below w3.heap.size w3 e1 := hBE.trans b1
                have hBL : Below w3.heap.size w3 (e1.alloc (.cells #[.int .i64 s1, .int .i64 s2, .int .i64 s3] 32)) := hB1.alloc hB1.size _
                have oL := o1.later (balloc e1 (.cells #[.int .i64 s1, .int .i64 s2, .int .i64 s3] 32))
                obtain ⟨Lw, hL⟩ : ∃ L, e1.alloc (.cells #[.int .i64 s1, .int .i64 s2, .int .i64 s3] 32) = L := ⟨_, rfl⟩
                have rL := litC e1 s1 s2 s3
                rw [hL] at hBL oL rL
                obtain ⟨v2, e2, r2, o2, g2, b2⟩ := appendC_run Lw w3.heap.size v1 (out.take k) [(s1, s2, s3)] (some ⟨e1.heap.size, 0, none⟩) 1 1 oL rL rfl (fun e => by cases e) (by rw [List.length_take]; omega) hBL.size
                have hB2 : Below w3.heap.size w3 e2 := hBL.trans b2
                have hlen2 : (out.take k ++ [(s1, s2, s3)]).length = k + 1 := by rw [List.length_append, List.length_take]; simp; omega
                rcases ho.addr with ⟨h1, _⟩ | ⟨g, hga, hgB, hgw⟩
                · cases h1
                · simp only [Option.some.injEq, Addr.mk.injEq] at hga
                  obtain ⟨rfl, rfl, _⟩ := hga
                  have hc : ¬ oc = k := by omega
                  obtain ⟨v3, e3, r3, o3, g3, b3⟩ := appendC_run e2 w3.heap.size v2 (out.take k ++ [(s1, s2, s3)]) (out.drop k) (some ⟨b4, k * 3, none⟩) (q - k) (oc - k) o2 ((ho.back k).later hB2) (by rw [List.length_drop]; omega) (fun e => by cases e) (by rw [hlen2]; omega) hB2.size
                  have HXE1 : Hid (X5 e1 w0.heap.size (.int .i64 s0) (.int .i64 s1) (.int .i64 s2) (.int .i64 s3) (.bool s4)) := (HAv.out.later HBz.out).later (hB1)
                  have HO3 : Hid (OwnC e3 w.heap.size v3 cs) := by have HBs := HBW.out.size; show OwnC _ _ _ _; rw [HI.out]; exact o3.mono HBs
                  have HB3 : Hid (Below w.heap.size w e3) := HBW.out.trans ((hB2.trans b3).mono HBW.out.size)
                  have HX3 : Hid (w3.heap.size ≤ e3.heap.size) := (hB2.trans b3).size
                  obtain ⟨a3, c3, hv3⟩ := HO3.out.shape
                  rw [HZL.out] at hv3
                  subst hv3
                  clear o1 o2 o3 g1 g2 g3 b1 b2 b3 oL rL hE ho hBE hBL hB1 hB2 hlen2 hcap hq2
                  obtain ⟨⟨zb0, zb1, zb2, zb3, zb4⟩, _⟩ := HXE1.out
                  go_wp2_with (first | (at_builtin; refine Lib.wpList_append_run _ rfl _ _ _ _ rfl _ _ rfl rfl _ _ (r1 _) ?_; clear r1) | (at_builtin; refine Lib.wpList_append_run _ rfl _ _ _ _ rfl _ _ rfl rfl _ _ (r2 _) ?_; clear r2) | (at_builtin; refine Lib.wpList_append_run _ rfl _ _ _ _ rfl _ _ rfl rfl _ _ (r3 _) ?_; clear r3))
                  go_roundw
                  case rel => exact ⟨j + 1, q + 1, a3, c3, by omega, by go_num, rfl, by show _ = _; rw [HCS.out]; exact HZL.out, by show OwnC _ _ _ _; rw [HCS.out]; exact HO3.out, HB3⟩
                  case measure => simp [intOf]; omega)
        · obtain rfl : k = P := by omega
          have hk1 : ¬ (k : Int) < (q : Int) := by omega
          have HI : Hid (cs = out.take k ++ [(s1, s2, s3)] ++ out.drop k) := HNI.out (fun h => by omega)
          have HZL : Hid (cs.length = q + 1) := by show _ = _; rw [HI.out]; simp only [List.length_append, List.length_take, List.length_drop, List.length_cons, List.length_nil]; have := HQ.out; omega
          go_wp2_with fail
          go_quiet (fail)
          obtain ⟨w2, hw2⟩ : ∃ Y, wr.drewN nq = Y := ⟨_, rfl⟩
          have HBy : Hid (Below V.heap.size V w2) := by rw [← hw2]; exact below_drewM HBr.out _
          rw [hw2]
          clear f00 f01 f02 f03 f04 hw2
          go_wp2_with fail
          go_quiet (fail)
          obtain ⟨w3, hw3⟩ : ∃ Y, w2.drewN nq = Y := ⟨_, rfl⟩
          have HBz : Hid (Below V.heap.size V w3) := by rw [← hw3]; exact below_drewM HBy.out _
          have HOW : Hid (OwnC w3 w.heap.size (.slice oa q oc) out) := HOv.out.later HBz.out
          have HBW : Hid (Below w.heap.size w w3) := HBv.out.trans (HBz.out.mono HBv.out.size)
          rw [hw3]
          clear hw3
          have ho := HOW.out
          have hcap := ho.cap
          have hq2 := HQ.out
          have hPc : k ≤ oc := by omega
          have hPc2 : (k : Int) ≤ (oc : Int) := by omega
          have hPc3 : (k : Int) ≤ (q : Int) := by omega
          have hE := emptyC w3
          have hBE : Below w3.heap.size w3 (w3.alloc (.cells #[] 32)) := balloc w3 _
          obtain ⟨E, hEe⟩ : ∃ E, w3.alloc (.cells #[] 32) = E := ⟨_, rfl⟩
          rw [hEe] at hE hBE
          obtain ⟨v1, e1, r1, o1, g1, b1⟩ := appendC_run E w3.heap.size _ [] (out.take k) oa k oc hE ((ho.front k).later hBE) (by rw [List.length_take]; omega) (fun e => by obtain ⟨h1, h2⟩ := ho.nil e; omega) (by simp; omega) hBE.size
          rw [List.nil_append] at o1
          have hB1 : Below w3.heap.size w3 e1 := hBE.trans b1
          have hBL : Below w3.heap.size w3 (e1.alloc (.cells #[.int .i64 s1, .int .i64 s2, .int .i64 s3] 32)) := hB1.alloc hB1.size _
          have oL := o1.later (balloc e1 (.cells #[.int .i64 s1, .int .i64 s2, .int .i64 s3] 32))
          obtain ⟨Lw, hL⟩ : ∃ L, e1.alloc (.cells #[.int .i64 s1, .int .i64 s2, .int .i64 s3] 32) = L := ⟨_, rfl⟩
          have rL := litC e1 s1 s2 s3
          rw [hL] at hBL oL rL
          obtain ⟨v2, e2, r2, o2, g2, b2⟩ := appendC_run Lw w3.heap.size v1 (out.take k) [(s1, s2, s3)] (some ⟨e1.heap.size, 0, none⟩) 1 1 oL rL rfl (fun e => by cases e) (by rw [List.length_take]; omega) hBL.size
          have hB2 : Below w3.heap.size w3 e2 := hBL.trans b2
          have hlen2 : (out.take k ++ [(s1, s2, s3)]).length = k + 1 := by rw [List.length_append, List.length_take]; simp; omega
          rcases ho.addr with ⟨rfl, hz1, rfl, rfl⟩ | ⟨g, rfl, hgB, hgw⟩
          · obtain rfl : k = 0 := by omega
            subst hz1
            obtain ⟨v3, e3, r3, o3, g3, b3⟩ := appendC_run e2 w3.heap.size v2 (([] : List (Int × Int × Int)).take 0 ++ [(s1, s2, s3)]) [] none 0 0 o2 (Or.inl rfl) rfl (fun _ => ⟨rfl, rfl⟩) (by simp) hB2.size
            have HXE1 : Hid (X5 e1 w0.heap.size (.int .i64 s0) (.int .i64 s1) (.int .i64 s2) (.int .i64 s3) (.bool s4)) := (HAv.out.later HBz.out).later (hB1)
            have HO3 : Hid (OwnC e3 w.heap.size v3 cs) := by have HBs := HBW.out.size; show OwnC _ _ _ _; rw [HI.out]; exact o3.mono HBs
            have HB3 : Hid (Below w.heap.size w e3) := HBW.out.trans ((hB2.trans b3).mono HBW.out.size)
            have HX3 : Hid (w3.heap.size ≤ e3.heap.size) := (hB2.trans b3).size
            obtain ⟨a3, c3, hv3⟩ := HO3.out.shape
            rw [HZL.out] at hv3
            subst hv3
            clear o1 o2 o3 g1 g2 g3 b1 b2 b3 oL rL hE ho hBE hBL hB1 hB2 hlen2 hcap hq2
            obtain ⟨⟨zb0, zb1, zb2, zb3, zb4⟩, _⟩ := HXE1.out
            go_wp2_with (first | (at_builtin; refine Lib.wpList_append_run _ rfl _ _ _ _ rfl _ _ rfl rfl _ _ (r1 _) ?_; clear r1) | (at_builtin; refine Lib.wpList_append_run _ rfl _ _ _ _ rfl _ _ rfl rfl _ _ (r2 _) ?_; clear r2) | (at_builtin; refine Lib.wpList_append_run _ rfl _ _ _ _ rfl _ _ rfl rfl _ _ (r3 _) ?_; clear r3))
            go_roundw
            case rel => exact ⟨j + 1, 0 + 1, a3, c3, by omega, by go_num, rfl, by show _ = _; rw [HCS.out]; exact HZL.out, by show OwnC _ _ _ _; rw [HCS.out]; exact HO3.out, HB3⟩
            case measure => simp [intOf]; omega
          · by_cases hc : oc = k
            · have hpq1 : q ≤ k := by omega
              subst hc
              obtain ⟨v3, e3, r3, o3, g3, b3⟩ := appendC_run e2 w3.heap.size v2 (out.take oc ++ [(s1, s2, s3)]) [] (some ⟨g, 0, none⟩) 0 0 o2 (Or.inl rfl) rfl (fun e => by cases e) (by rw [hlen2]; omega) hB2.size
              have HXE1 : Hid (X5 e1 w0.heap.size (.int .i64 s0) (.int .i64 s1) (.int .i64 s2) (.int .i64 s3) (.bool s4)) := (HAv.out.later HBz.out).later (hB1)
              have HO3 : Hid (OwnC e3 w.heap.size v3 cs) := by have HBs := HBW.out.size; show OwnC _ _ _ _; rw [HI.out]; rw [List.drop_of_length_le (show out.length ≤ oc by omega)]; exact o3.mono HBs
              have HB3 : Hid (Below w.heap.size w e3) := HBW.out.trans ((hB2.trans b3).mono HBW.out.size)
              have HX3 : Hid (w3.heap.size ≤ e3.heap.size) := (hB2.trans b3).size
              obtain ⟨a3, c3, hv3⟩ := HO3.out.shape
              rw [HZL.out] at hv3
              subst hv3
              clear o1 o2 o3 g1 g2 g3 b1 b2 b3 oL rL hE ho hBE hBL hB1 hB2 hlen2 hcap hq2
              obtain ⟨⟨zb0, zb1, zb2, zb3, zb4⟩, _⟩ := HXE1.out
              go_wp2_with (first | (at_builtin; refine Lib.wpList_append_run _ rfl _ _ _ _ rfl _ _ rfl rfl _ _ (r1 _) ?_; clear r1) | (at_builtin; refine Lib.wpList_append_run _ rfl _ _ _ _ rfl _ _ rfl rfl _ _ (r2 _) ?_; clear r2) | (at_builtin; refine Lib.wpList_append_run _ rfl _ _ _ _ rfl _ _ rfl rfl _ _ (r3 _) ?_; clear r3))
              go_roundw
              case rel => exact ⟨j + 1, q + 1, a3, c3, by omega, by go_num, rfl, by show _ = _; rw [HCS.out]; exact HZL.out, by show OwnC _ _ _ _; rw [HCS.out]; exact HO3.out, HB3⟩
              case measure => simp [intOf]; omega
            · skip
              obtain ⟨v3, e3, r3, o3, g3, b3⟩ := appendC_run e2 w3.heap.size v2 (out.take k ++ [(s1, s2, s3)]) (out.drop k) (some ⟨g, k * 3, none⟩) (q - k) (oc - k) o2 ((ho.back k).later hB2) (by rw [List.length_drop]; omega) (fun e => by cases e) (by rw [hlen2]; omega) hB2.size
              have HXE1 : Hid (X5 e1 w0.heap.size (.int .i64 s0) (.int .i64 s1) (.int .i64 s2) (.int .i64 s3) (.bool s4)) := (HAv.out.later HBz.out).later (hB1)
              have HO3 : Hid (OwnC e3 w.heap.size v3 cs) := by have HBs := HBW.out.size; show OwnC _ _ _ _; rw [HI.out]; exact o3.mono HBs
              have HB3 : Hid (Below w.heap.size w e3) := HBW.out.trans ((hB2.trans b3).mono HBW.out.size)
              have HX3 : Hid (w3.heap.size ≤ e3.heap.size) := (hB2.trans b3).size
              obtain ⟨a3, c3, hv3⟩ := HO3.out.shape
              rw [HZL.out] at hv3
              subst hv3
              clear o1 o2 o3 g1 g2 g3 b1 b2 b3 oL rL hE ho hBE hBL hB1 hB2 hlen2 hcap hq2
              obtain ⟨⟨zb0, zb1, zb2, zb3, zb4⟩, _⟩ := HXE1.out
              go_wp2_with (first | (at_builtin; refine Lib.wpList_append_run _ rfl _ _ _ _ rfl _ _ rfl rfl _ _ (r1 _) ?_; clear r1) | (at_builtin; refine Lib.wpList_append_run _ rfl _ _ _ _ rfl _ _ rfl rfl _ _ (r2 _) ?_; clear r2) | (at_builtin; refine Lib.wpList_append_run _ rfl _ _ _ _ rfl _ _ rfl rfl _ _ (r3 _) ?_; clear r3))
              go_roundw
              case rel => exact ⟨j + 1, q + 1, a3, c3, by omega, by go_num, rfl, by show _ = _; rw [HCS.out]; exact HZL.out, by show OwnC _ _ _ _; rw [HCS.out]; exact HO3.out, HB3⟩
              case measure => simp [intOf]; omega
    · obtain rfl : j = n := by omega
      have he : xs.take j = xs := List.take_of_length_le (by rw [HX.out]; exact Nat.le_refl _)
      rw [he] at HO
      go_wp2
      refine bodyPost_ret (v := .slice oa q oc) (by simp [results, Tryz.results67, go_sem, ]; try rfl) rfl ?_
      exact ⟨oa, q, oc, rfl, HO.out, HB.out⟩

end Go.Proofs.YtleddlfojogdiaaGreat
