/- Chapter 14: l14Rank of the specification. -/
import Derived.Test.YtleddlfojogdiaaS14
import Derived.Test.YtleddlfojogdiaaA14
import Derived.Deep.RegionWith
import Derived.Deep.RegionHeld3
import Derived.Lib.SliceRun
namespace Go.Proofs.Ytleddlfojogdiaa
set_option linter.unusedVariables false
set_option maxRecDepth 1000000
set_option linter.unusedSimpArgs false
open Go.RowKit

theorem rankTo_get {xs : List Ta} {m k : Nat} (hk : k < m) : 0 ≤ (rankTo xs m).getD k 0 ∧ (rankTo xs m).getD k 0 < m := by
  have hl := (rankTo_all xs m).2.2
  exact ((rankTo_all xs m).2.1 _).1 (mem_getD 0 (by rw [hl]; exact hk))

set_option maxHeartbeats 16000000 in
theorem l14Rank_c (ao : Option Addr) (n c : Nat) (xs : List Ta) (w : World) (hx : xs.length = n) (hn : n ≤ 12) (hg : tasAt xs = true) (hr : RdU w ao xs) :
    Calls Try.prog 64 #[.slice ao n c] w fun e w' => ∃ a' c', e = .returned (.slice a' n c') ∧ Own w' w.heap.size (.slice a' n c') (rankL xs) ∧ Below w.heap.size w w' := by
  have HX : Hid (xs.length = n) := hx
  have HR : Hid (RdU w ao xs) := hr
  have HG : Hid (∀ j, j < n → 0 ≤ (xs.getD j (0, 0, 0)).2.1 ∧ (xs.getD j (0, 0, 0)).2.1 ≤ 100 ∧ 0 ≤ (xs.getD j (0, 0, 0)).2.2 ∧ (xs.getD j (0, 0, 0)).2.2 ≤ 100) := fun j hj => (taAt_iff.1 (tasAt_at hg (by rw [hx]; exact hj))).2
  have HRL : Hid (rankL xs = rankTo xs n) := by show _ = _; unfold rankL; rw [hx]
  clear hx hr hg
  go_enter Try.func64, Try.ntmps64
  go_wp2
  go_loopw [3, 10] (fun ov iv wq => ∃ (h : Nat) (oa : Option Addr) (oc : Nat), h ≤ n ∧ iv = .int .i64 h ∧ ov = .slice oa h oc ∧ Hid (Own wq w.heap.size (.slice oa h oc) (rankTo xs h)) ∧ Hid (Below w.heap.size w wq)) (fun _ iv _ => n - (intOf iv).toNat)
  case atStart => exact ⟨0, none, 0, Nat.zero_le _, rfl, rfl, own_nilI _ _, Below.refl _ _⟩
  case round =>
    obtain ⟨h, oa, oc, hh, rfl, rfl, HO, HB⟩ := hrel
    obtain ⟨w0, hw0⟩ : ∃ Y, Y = wr := ⟨_, rfl⟩
    subst hw0
    by_cases hlt : h < n
    · have hkl : h < xs.length := by rw [HX.out]; exact hlt
      obtain ⟨b, o, rfl, g0, g1, g2⟩ := (HR.out.later HB.out).get hkl
      have HBv : Hid (Below w.heap.size w (w0.alloc (.cells #[.int .i64 (xs.getD h (0, 0, 0)).1, .int .i64 (xs.getD h (0, 0, 0)).2.1, .int .i64 (xs.getD h (0, 0, 0)).2.2] 38))) := HB.out.alloc HB.out.size _
      have HAv : Hid (X3 (w0.alloc (.cells #[.int .i64 (xs.getD h (0, 0, 0)).1, .int .i64 (xs.getD h (0, 0, 0)).2.1, .int .i64 (xs.getD h (0, 0, 0)).2.2] 38)) w0.heap.size (.int .i64 (xs.getD h (0, 0, 0)).1) (.int .i64 (xs.getD h (0, 0, 0)).2.1) (.int .i64 (xs.getD h (0, 0, 0)).2.2)) := x3_new _ _ _ _ _ _ rfl
      have HOv : Hid (Own (w0.alloc (.cells #[.int .i64 (xs.getD h (0, 0, 0)).1, .int .i64 (xs.getD h (0, 0, 0)).2.1, .int .i64 (xs.getD h (0, 0, 0)).2.2] 38)) w.heap.size (.slice oa h oc) (rankTo xs h)) := HO.out.later (balloc _ _)
      have HSX : Hid (scH xs h = scoreT ((xs.getD h (0, 0, 0)).1, (xs.getD h (0, 0, 0)).2.1, (xs.getD h (0, 0, 0)).2.2)) := by show _ = _; unfold scH; simp only [Int.toNat_natCast]
      have HQX : Hid (∀ wx, Calls Try.prog 75 #[.agg #[.int .i64 (xs.getD h (0, 0, 0)).1, .int .i64 (xs.getD h (0, 0, 0)).2.1, .int .i64 (xs.getD h (0, 0, 0)).2.2]] wx fun e w' => e = .returned (.int .i64 (scH xs h)) ∧ Below wx.heap.size wx w') := fun wx => by have := HG.out h hlt; rw [HSX.out]; exact l14Score_c _ _ _ wx this.1 this.2.1 this.2.2.1 this.2.2.2
      generalize (xs.getD h (0, 0, 0)).1 = x0 at g0 HBv HAv HOv HQX
      generalize (xs.getD h (0, 0, 0)).2.1 = x1 at g1 HBv HAv HOv HQX
      generalize (xs.getD h (0, 0, 0)).2.2 = x2 at g2 HBv HAv HOv HQX
      obtain ⟨V, hV⟩ : ∃ V, w0.alloc (.cells #[.int .i64 x0, .int .i64 x1, .int .i64 x2] 38) = V := ⟨_, rfl⟩
      rw [hV] at HBv HAv HOv
      have HI : Hid (rankTo xs (h + 1) = (rankTo xs h).take (posR xs (rankTo xs h) h) ++ [(h : Int)] ++ (rankTo xs h).drop (posR xs (rankTo xs h) h)) := by show _ = _; rw [rankTo_succ]; rfl
      have HQ : Hid ((rankTo xs h).length = h) := (rankTo_all xs h).2.2
      have HZL : Hid ((rankTo xs (h + 1)).length = h + 1) := (rankTo_all xs (h + 1)).2.2
      have hPq : posR xs (rankTo xs h) h ≤ h := by have := posR_le xs (rankTo xs h) h; rw [HQ.out] at this; exact this
      have HLT : Hid (∀ k, k < posR xs (rankTo xs h) h → scH xs ((rankTo xs h).getD k 0) ≥ scH xs h) := fun k hk => posR_lt hk
      have HAT : Hid (posR xs (rankTo xs h) h < h → ¬ scH xs ((rankTo xs h).getD (posR xs (rankTo xs h) h) 0) ≥ scH xs h) := fun hk => by have := posR_at (l := xs) (h := (h : Int)) (out := rankTo xs h) (by rw [HQ.out]; exact hk); omega
      have HGET : Hid (∀ k, k < h → 0 ≤ (rankTo xs h).getD k 0 ∧ (rankTo xs h).getD k 0 < h) := fun k hk => rankTo_get hk
      generalize hZ : rankTo xs (h + 1) = zs at HI HZL
      have HZ : Hid (rankTo xs (h + 1) = zs) := hZ
      clear hZ
      generalize posR xs (rankTo xs h) h = P at HI hPq HLT HAT
      generalize rankTo xs h = out at HI HQ HLT HAT HOv HGET
      generalize scH xs h = sx at HQX HLT HAT
      clear HSX HO hkl
      go_wp2_with fail
      clear hV g0 g1 g2
      go_loopw [6] (fun kv wq => ∃ (k : Nat), k ≤ P ∧ kv = .int .i64 k ∧ Hid (Below V.heap.size V wq)) (fun kv _ => P - (intOf kv).toNat)
      case atStart => exact ⟨0, Nat.zero_le _, rfl, Below.refl _ _⟩
      case round =>
        obtain ⟨k, hk, rfl, HBr⟩ := hrel
        have A0_ : Hid (X3 wr w0.heap.size (.int .i64 x0) (.int .i64 x1) (.int .i64 x2)) := HAv.out.later HBr.out
        obtain ⟨⟨f00, f01, f02⟩, _⟩ := id (A0_.out)
        by_cases hkh : k < h
        · have hk1 : (k : Int) < (h : Int) := by omega
          obtain ⟨b4, o4, hoa, gk⟩ := (Rd.later HOv.out.rd'.2 HBr.out).get (k := k) (by rw [HQ.out]; exact hkh)
          have hyr := HGET.out k hkh
          obtain ⟨y, hy⟩ : ∃ y : Nat, out.getD k 0 = (y : Int) := ⟨(out.getD k 0).toNat, by omega⟩
          have hyh : y < h := by omega
          have hyn : y < xs.length := by rw [HX.out]; omega
          have hy0 : (0 : Int) ≤ (y : Int) := by omega
          have hy1 : (y : Int) < (n : Int) := by omega
          obtain ⟨b5, o5, hb5, g0, g1, g2⟩ := ((HR.out.later HBv.out).later ((HBr.out).mono (Nat.le_refl _))).get hyn
          simp only [Option.some.injEq, Addr.mk.injEq] at hb5
          obtain ⟨rfl, rfl, _⟩ := hb5
          have HSY : Hid (scH xs (out.getD k 0) = scoreT ((xs.getD y (0, 0, 0)).1, (xs.getD y (0, 0, 0)).2.1, (xs.getD y (0, 0, 0)).2.2)) := by show _ = _; rw [hy]; unfold scH; simp only [Int.toNat_natCast]
          have HQY : Hid (∀ wx, Calls Try.prog 75 #[.agg #[.int .i64 (xs.getD y (0, 0, 0)).1, .int .i64 (xs.getD y (0, 0, 0)).2.1, .int .i64 (xs.getD y (0, 0, 0)).2.2]] wx fun e w' => e = .returned (.int .i64 (scH xs (out.getD k 0))) ∧ Below wx.heap.size wx w') := fun wx => by have := HG.out y (by omega); rw [HSY.out]; exact l14Score_c _ _ _ wx this.1 this.2.1 this.2.2.1 this.2.2.2
          have HLTk : Hid (k < P → scH xs (out.getD k 0) ≥ sx) := HLT.out k
          have HATk : Hid (k = P → ¬ scH xs (out.getD k 0) ≥ sx) := fun e => by rw [e]; have := HAT.out (by omega); omega
          rw [hy] at gk
          generalize scH xs (out.getD k 0) = sy at HQY HLTk HATk
          generalize (xs.getD y (0, 0, 0)).1 = y0 at g0 HQY
          generalize (xs.getD y (0, 0, 0)).2.1 = y1 at g1 HQY
          generalize (xs.getD y (0, 0, 0)).2.2 = y2 at g2 HQY
          subst hoa
          clear HSY hy hyr hyn
          by_cases hkP : k < P
          · have hge : sy ≥ sx := by have := HLTk.out hkP; omega
            clear HLTk HATk
            go_wp2_with fail
            have HBwrd : Hid (Below V.heap.size V wr.drew) := HBr.out.drew
            have tok1 : True := trivial
            go_region_held3 (fun w' => w'.cell? ⟨b4, o4 + k, none⟩ = some (.int .i64 y) ∧ w'.cell? ⟨b, o + y * 3, none⟩ = some (.int .i64 y0) ∧ w'.cell? ⟨b, o + y * 3 + 1, none⟩ = some (.int .i64 y1) ∧ w'.cell? ⟨b, o + y * 3 + 2, none⟩ = some (.int .i64 y2) ∧ w'.cell? ⟨w0.heap.size, 0, none⟩ = some (.int .i64 x0) ∧ w'.cell? ⟨w0.heap.size, 1, none⟩ = some (.int .i64 x1) ∧ w'.cell? ⟨w0.heap.size, 2, none⟩ = some (.int .i64 x2)) (first | go_keep) (first | (go_at_call 75; clear tok1; refine (HQY.out _).mono ?_; rintro e w1 ⟨rfl, hb⟩; have ka0 := cell_keep (S := 0) (w1 := wr.drew) hb gk; have ka1 := cell_keep (S := 0) (w1 := wr.drew) hb g0; have ka2 := cell_keep (S := 0) (w1 := wr.drew) hb g1; have ka3 := cell_keep (S := 0) (w1 := wr.drew) hb g2; have ka4 := cell_keep (S := 0) (w1 := wr.drew) hb f00; have ka5 := cell_keep (S := 0) (w1 := wr.drew) hb f01; have ka6 := cell_keep (S := 0) (w1 := wr.drew) hb f02; have HBw1 : Hid (Below V.heap.size V w1) := HBwrd.out.trans (hb.mono HBwrd.out.size); clear hb) | (go_at_call 75; refine (HQX.out _).mono ?_; rintro e w2 ⟨rfl, hb⟩; have kb0 := cell_keep (S := 0) (w1 := w1) hb ka0; have kb1 := cell_keep (S := 0) (w1 := w1) hb ka1; have kb2 := cell_keep (S := 0) (w1 := w1) hb ka2; have kb3 := cell_keep (S := 0) (w1 := w1) hb ka3; have kb4 := cell_keep (S := 0) (w1 := w1) hb ka4; have kb5 := cell_keep (S := 0) (w1 := w1) hb ka5; have kb6 := cell_keep (S := 0) (w1 := w1) hb ka6; have HBw2 : Hid (Below V.heap.size V w2) := HBw1.out.trans (hb.mono HBw1.out.size); clear hb))
            all_goals (
              have HBz : Hid (Below V.heap.size V w2) := HBw2.out
              go_wp2
              go_roundw
              case rel => exact ⟨k + 1, by omega, by go_num, HBz⟩
              case measure => simp [intOf]; omega)
          · obtain rfl : k = P := by omega
            have hge : ¬ sy ≥ sx := by have := HATk.out rfl; omega
            clear HLTk HATk
            go_wp2_with fail
            have HBwrd : Hid (Below V.heap.size V wr.drew) := HBr.out.drew
            have tok1 : True := trivial
            go_region_held3 (fun w' => w'.cell? ⟨b4, o4 + k, none⟩ = some (.int .i64 y) ∧ w'.cell? ⟨b, o + y * 3, none⟩ = some (.int .i64 y0) ∧ w'.cell? ⟨b, o + y * 3 + 1, none⟩ = some (.int .i64 y1) ∧ w'.cell? ⟨b, o + y * 3 + 2, none⟩ = some (.int .i64 y2) ∧ w'.cell? ⟨w0.heap.size, 0, none⟩ = some (.int .i64 x0) ∧ w'.cell? ⟨w0.heap.size, 1, none⟩ = some (.int .i64 x1) ∧ w'.cell? ⟨w0.heap.size, 2, none⟩ = some (.int .i64 x2)) (first | go_keep) (first | (go_at_call 75; clear tok1; refine (HQY.out _).mono ?_; rintro e w1 ⟨rfl, hb⟩; have ka0 := cell_keep (S := 0) (w1 := wr.drew) hb gk; have ka1 := cell_keep (S := 0) (w1 := wr.drew) hb g0; have ka2 := cell_keep (S := 0) (w1 := wr.drew) hb g1; have ka3 := cell_keep (S := 0) (w1 := wr.drew) hb g2; have ka4 := cell_keep (S := 0) (w1 := wr.drew) hb f00; have ka5 := cell_keep (S := 0) (w1 := wr.drew) hb f01; have ka6 := cell_keep (S := 0) (w1 := wr.drew) hb f02; have HBw1 : Hid (Below V.heap.size V w1) := HBwrd.out.trans (hb.mono HBwrd.out.size); clear hb) | (go_at_call 75; refine (HQX.out _).mono ?_; rintro e w2 ⟨rfl, hb⟩; have kb0 := cell_keep (S := 0) (w1 := w1) hb ka0; have kb1 := cell_keep (S := 0) (w1 := w1) hb ka1; have kb2 := cell_keep (S := 0) (w1 := w1) hb ka2; have kb3 := cell_keep (S := 0) (w1 := w1) hb ka3; have kb4 := cell_keep (S := 0) (w1 := w1) hb ka4; have kb5 := cell_keep (S := 0) (w1 := w1) hb ka5; have kb6 := cell_keep (S := 0) (w1 := w1) hb ka6; have HBw2 : Hid (Below V.heap.size V w2) := HBw1.out.trans (hb.mono HBw1.out.size); clear hb))
            all_goals (
              have HBz : Hid (Below V.heap.size V w2) := HBw2.out
              have HOW : Hid (Own w2 w.heap.size (.slice (some ⟨b4, o4, none⟩) h oc) out) := HOv.out.later HBz.out
              have HBW : Hid (Below w.heap.size w w2) := HBv.out.trans (HBz.out.mono HBv.out.size)
              have ho := HOW.out
              have hcap := ho.cap
              have hq2 := HQ.out
              have hPc : k ≤ oc := by omega
              have hPc2 : (k : Int) ≤ (oc : Int) := by omega
              have hPc3 : (k : Int) ≤ (h : Int) := by omega
              have hE := emptyI w2
              have hBE : Below w2.heap.size w2 (w2.alloc (.cells #[] 3)) := balloc w2 _
              obtain ⟨E, hEe⟩ : ∃ E, w2.alloc (.cells #[] 3) = E := ⟨_, rfl⟩
              rw [hEe] at hE hBE
              obtain ⟨v1, e1, r1, o1, g1, b1⟩ := appendI_run E w2.heap.size _ [] (out.take k) (some ⟨b4, o4, none⟩) k oc hE ((ho.front k).later hBE) (by rw [List.length_take]; omega) (fun e => by obtain ⟨h1, h2⟩ := ho.nil e; omega) (by simp; omega) hBE.size
              rw [List.nil_append] at o1
              have hB1 : Below w2.heap.size w2 e1 := hBE.trans b1
              have hBL : Below w2.heap.size w2 (e1.alloc (.cells #[.int .i64 ((h : Nat) : Int)] 3)) := hB1.alloc hB1.size _
              have oL := o1.later (balloc e1 (.cells #[.int .i64 ((h : Nat) : Int)] 3))
              obtain ⟨Lw, hL⟩ : ∃ L, e1.alloc (.cells #[.int .i64 ((h : Nat) : Int)] 3) = L := ⟨_, rfl⟩
              have rL := litI e1 ((h : Nat) : Int)
              rw [hL] at hBL oL rL
              obtain ⟨v2, e2, r2, o2, g2, b2⟩ := appendI_run Lw w2.heap.size v1 (out.take k) [((h : Nat) : Int)] (some ⟨e1.heap.size, 0, none⟩) 1 1 oL rL rfl (fun e => by cases e) (by rw [List.length_take]; omega) hBL.size
              have hB2 : Below w2.heap.size w2 e2 := hBL.trans b2
              have hlen2 : (out.take k ++ [((h : Nat) : Int)]).length = k + 1 := by rw [List.length_append, List.length_take]; simp; omega
              rcases ho.addr with ⟨h1, _⟩ | ⟨g, hga, hgB, hgw⟩
              · cases h1
              · simp only [Option.some.injEq, Addr.mk.injEq] at hga
                obtain ⟨rfl, rfl, _⟩ := hga
                have hc : ¬ oc = k := by omega
                obtain ⟨v3, e3, r3, o3, g3, b3⟩ := appendI_run e2 w2.heap.size v2 (out.take k ++ [((h : Nat) : Int)]) (out.drop k) (some ⟨b4, k, none⟩) (h - k) (oc - k) o2 ((ho.back k).later hB2) (by rw [List.length_drop]; omega) (fun e => by cases e) (by rw [hlen2]; omega) hB2.size
                have HO3 : Hid (Own e3 w.heap.size v3 zs) := by have HBs := HBW.out.size; show Own _ _ _ _; rw [HI.out]; exact o3.mono HBs
                have HB3 : Hid (Below w.heap.size w e3) := HBW.out.trans ((hB2.trans b3).mono HBW.out.size)
                have HX3 : Hid (w2.heap.size ≤ e3.heap.size) := (hB2.trans b3).size
                obtain ⟨a3, c3, hv3⟩ := HO3.out.shape
                rw [HZL.out] at hv3
                subst hv3
                clear o1 o2 o3 g1 g2 g3 b1 b2 b3 oL rL hE ho hBE hBL hB1 hB2 hlen2 hcap hq2
                go_wp2_with (first | (at_builtin; refine Lib.wpList_append_run _ rfl _ _ _ _ rfl _ _ rfl rfl _ _ (r1 _) ?_; clear r1) | (at_builtin; refine Lib.wpList_append_run _ rfl _ _ _ _ rfl _ _ rfl rfl _ _ (r2 _) ?_; clear r2) | (at_builtin; refine Lib.wpList_append_run _ rfl _ _ _ _ rfl _ _ rfl rfl _ _ (r3 _) ?_; clear r3))
                go_roundw
                case rel => exact ⟨h + 1, a3, c3, by omega, by go_num, rfl, by show Own _ _ _ _; rw [HZ.out]; exact HO3.out, HB3⟩
                case measure => simp [intOf]; omega)
        · obtain rfl : k = P := by omega
          have hk1 : ¬ (k : Int) < (h : Int) := by omega
          go_wp2_with fail
          go_quiet (fail)
          obtain ⟨w2, hw2⟩ : ∃ Y, wr.drewN nq = Y := ⟨_, rfl⟩
          have HBz : Hid (Below V.heap.size V w2) := by rw [← hw2]; exact below_drewM HBr.out _
          have HOW : Hid (Own w2 w.heap.size (.slice oa h oc) out) := HOv.out.later HBz.out
          have HBW : Hid (Below w.heap.size w w2) := HBv.out.trans (HBz.out.mono HBv.out.size)
          rw [hw2]
          clear f00 f01 f02 hw2
          have ho := HOW.out
          have hcap := ho.cap
          have hq2 := HQ.out
          have hPc : k ≤ oc := by omega
          have hPc2 : (k : Int) ≤ (oc : Int) := by omega
          have hPc3 : (k : Int) ≤ (h : Int) := by omega
          have hE := emptyI w2
          have hBE : Below w2.heap.size w2 (w2.alloc (.cells #[] 3)) := balloc w2 _
          obtain ⟨E, hEe⟩ : ∃ E, w2.alloc (.cells #[] 3) = E := ⟨_, rfl⟩
          rw [hEe] at hE hBE
          obtain ⟨v1, e1, r1, o1, g1, b1⟩ := appendI_run E w2.heap.size _ [] (out.take k) oa k oc hE ((ho.front k).later hBE) (by rw [List.length_take]; omega) (fun e => by obtain ⟨h1, h2⟩ := ho.nil e; omega) (by simp; omega) hBE.size
          rw [List.nil_append] at o1
          have hB1 : Below w2.heap.size w2 e1 := hBE.trans b1
          have hBL : Below w2.heap.size w2 (e1.alloc (.cells #[.int .i64 ((h : Nat) : Int)] 3)) := hB1.alloc hB1.size _
          have oL := o1.later (balloc e1 (.cells #[.int .i64 ((h : Nat) : Int)] 3))
          obtain ⟨Lw, hL⟩ : ∃ L, e1.alloc (.cells #[.int .i64 ((h : Nat) : Int)] 3) = L := ⟨_, rfl⟩
          have rL := litI e1 ((h : Nat) : Int)
          rw [hL] at hBL oL rL
          obtain ⟨v2, e2, r2, o2, g2, b2⟩ := appendI_run Lw w2.heap.size v1 (out.take k) [((h : Nat) : Int)] (some ⟨e1.heap.size, 0, none⟩) 1 1 oL rL rfl (fun e => by cases e) (by rw [List.length_take]; omega) hBL.size
          have hB2 : Below w2.heap.size w2 e2 := hBL.trans b2
          have hlen2 : (out.take k ++ [((h : Nat) : Int)]).length = k + 1 := by rw [List.length_append, List.length_take]; simp; omega
          rcases ho.addr with ⟨rfl, hz1, rfl, rfl⟩ | ⟨g, rfl, hgB, hgw⟩
          · obtain rfl : k = 0 := by omega
            subst hz1
            simp only [show ((0 : Nat) : Int) = 0 from rfl] at hL rL oL hBL r2 o2 g2 HI
            obtain ⟨v3, e3, r3, o3, g3, b3⟩ := appendI_run e2 w2.heap.size v2 (([] : List Int).take 0 ++ [(0 : Int)]) [] none 0 0 o2 (Or.inl rfl) rfl (fun _ => ⟨rfl, rfl⟩) (by simp) hB2.size
            have HO3 : Hid (Own e3 w.heap.size v3 zs) := by have HBs := HBW.out.size; show Own _ _ _ _; rw [HI.out]; exact o3.mono HBs
            have HB3 : Hid (Below w.heap.size w e3) := HBW.out.trans ((hB2.trans b3).mono HBW.out.size)
            have HX3 : Hid (w2.heap.size ≤ e3.heap.size) := (hB2.trans b3).size
            obtain ⟨a3, c3, hv3⟩ := HO3.out.shape
            rw [HZL.out] at hv3
            subst hv3
            clear o1 o2 o3 g1 g2 g3 b1 b2 b3 oL rL hE ho hBE hBL hB1 hB2 hlen2 hcap hq2
            go_wp2_with (first | (at_builtin; refine Lib.wpList_append_run _ rfl _ _ _ _ rfl _ _ rfl rfl _ _ (r1 _) ?_; clear r1) | (at_builtin; refine Lib.wpList_append_run _ rfl _ _ _ _ rfl _ _ rfl rfl _ _ (r2 _) ?_; clear r2) | (at_builtin; refine Lib.wpList_append_run _ rfl _ _ _ _ rfl _ _ rfl rfl _ _ (r3 _) ?_; clear r3))
            go_roundw
            case rel => exact ⟨0 + 1, a3, c3, by omega, by go_num, rfl, by show Own _ _ _ _; rw [HZ.out]; exact HO3.out, HB3⟩
            case measure => simp [intOf]; omega
          · by_cases hc : oc = k
            · have hpq1 : h ≤ k := by omega
              subst hc
              obtain ⟨v3, e3, r3, o3, g3, b3⟩ := appendI_run e2 w2.heap.size v2 (out.take oc ++ [((h : Nat) : Int)]) [] (some ⟨g, 0, none⟩) 0 0 o2 (Or.inl rfl) rfl (fun e => by cases e) (by rw [hlen2]; omega) hB2.size
              have HO3 : Hid (Own e3 w.heap.size v3 zs) := by have HBs := HBW.out.size; show Own _ _ _ _; rw [HI.out]; rw [List.drop_of_length_le (show out.length ≤ oc by omega)]; exact o3.mono HBs
              have HB3 : Hid (Below w.heap.size w e3) := HBW.out.trans ((hB2.trans b3).mono HBW.out.size)
              have HX3 : Hid (w2.heap.size ≤ e3.heap.size) := (hB2.trans b3).size
              obtain ⟨a3, c3, hv3⟩ := HO3.out.shape
              rw [HZL.out] at hv3
              subst hv3
              clear o1 o2 o3 g1 g2 g3 b1 b2 b3 oL rL hE ho hBE hBL hB1 hB2 hlen2 hcap hq2
              go_wp2_with (first | (at_builtin; refine Lib.wpList_append_run _ rfl _ _ _ _ rfl _ _ rfl rfl _ _ (r1 _) ?_; clear r1) | (at_builtin; refine Lib.wpList_append_run _ rfl _ _ _ _ rfl _ _ rfl rfl _ _ (r2 _) ?_; clear r2) | (at_builtin; refine Lib.wpList_append_run _ rfl _ _ _ _ rfl _ _ rfl rfl _ _ (r3 _) ?_; clear r3))
              go_roundw
              case rel => exact ⟨h + 1, a3, c3, by omega, by go_num, rfl, by show Own _ _ _ _; rw [HZ.out]; exact HO3.out, HB3⟩
              case measure => simp [intOf]; omega
            · skip
              obtain ⟨v3, e3, r3, o3, g3, b3⟩ := appendI_run e2 w2.heap.size v2 (out.take k ++ [((h : Nat) : Int)]) (out.drop k) (some ⟨g, k, none⟩) (h - k) (oc - k) o2 ((ho.back k).later hB2) (by rw [List.length_drop]; omega) (fun e => by cases e) (by rw [hlen2]; omega) hB2.size
              have HO3 : Hid (Own e3 w.heap.size v3 zs) := by have HBs := HBW.out.size; show Own _ _ _ _; rw [HI.out]; exact o3.mono HBs
              have HB3 : Hid (Below w.heap.size w e3) := HBW.out.trans ((hB2.trans b3).mono HBW.out.size)
              have HX3 : Hid (w2.heap.size ≤ e3.heap.size) := (hB2.trans b3).size
              obtain ⟨a3, c3, hv3⟩ := HO3.out.shape
              rw [HZL.out] at hv3
              subst hv3
              clear o1 o2 o3 g1 g2 g3 b1 b2 b3 oL rL hE ho hBE hBL hB1 hB2 hlen2 hcap hq2
              go_wp2_with (first | (at_builtin; refine Lib.wpList_append_run _ rfl _ _ _ _ rfl _ _ rfl rfl _ _ (r1 _) ?_; clear r1) | (at_builtin; refine Lib.wpList_append_run _ rfl _ _ _ _ rfl _ _ rfl rfl _ _ (r2 _) ?_; clear r2) | (at_builtin; refine Lib.wpList_append_run _ rfl _ _ _ _ rfl _ _ rfl rfl _ _ (r3 _) ?_; clear r3))
              go_roundw
              case rel => exact ⟨h + 1, a3, c3, by omega, by go_num, rfl, by show Own _ _ _ _; rw [HZ.out]; exact HO3.out, HB3⟩
              case measure => simp [intOf]; omega
    · obtain rfl : h = n := by omega
      go_wp2
      refine bodyPost_ret (v := .slice oa h oc) (by simp [results, Try.results64, go_sem, ]; try rfl) rfl ?_
      exact ⟨oa, oc, rfl, by show Own _ _ _ _; rw [HRL.out]; exact HO.out, HB.out⟩

end Go.Proofs.Ytleddlfojogdiaa
