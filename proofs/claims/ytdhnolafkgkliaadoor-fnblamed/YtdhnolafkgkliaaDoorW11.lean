/- Chapter 11: RunTrip of the specification. -/
import Derived.Test.YtdhnolafkgkliaaDoorV11
namespace Go.Proofs.YtdhnolafkgkliaaDoor
set_option linter.unusedVariables false
set_option maxRecDepth 1000000
set_option linter.unusedSimpArgs false
open Go.RowKit

set_option maxHeartbeats 4000000 in
theorem specTrip_c (ao : Option Addr) (n c : Nat) (xs : List Int) (l lo : Int) (w : World) (hx : xs.length = n) (hn : n ≤ 17592186044416) (hr : Rd w ao xs) :
    Calls Tryd.prog 11 #[.slice ao n c, .int .i64 l, .int .i64 lo] w fun e w' => ∃ ha hc ra rc, e = .returned (.tuple #[.agg #[.slice ha (tripV xs l lo).hands.length hc, .int .i64 (tripV xs l lo).letter, .int .i64 (tripV xs l lo).at, .slice ra (tripV xs l lo).recs.length rc, .int .i64 (tripV xs l lo).lost], .bool (tripOk xs l lo)]) ∧ Own w' w.heap.size (.slice ha (tripV xs l lo).hands.length hc) (tripV xs l lo).hands ∧ OwnR w' w.heap.size (.slice ra (tripV xs l lo).recs.length rc) (tripV xs l lo).recs ∧ Below w.heap.size w w' := by
  have HR : Hid (Rd w ao xs) := hr
  have HC1 : Hid (∀ wx, Rd wx ao xs → Calls Tryd.prog 48 #[.slice ao n c] wx fun e w' => e = .returned (.bool (secsH xs)) ∧ w' = wx) := fun wx h => l11Secrets_c ao n c xs wx hx hn h
  have c2 := fun wx => l11Letter_c l wx
  have HRz : Hid (Rd (w.alloc (.cells #[.slice none 0 0, .int .i64 0, .int .i64 0, .slice none 0 0, .int .i64 0] 28)) ao xs) := hr.later (balloc w _)
  clear hr
  by_cases h1 : secsH xs = true
  case neg =>
    rw [Bool.not_eq_true] at h1
    have h : tripOk xs l lo = false := by unfold tripOk; rw [h1]; rfl
    rw [trip_no h, h]
    rw [h1] at HC1
    clear h h1 hx c2
    go_enter Tryd.func11, Tryd.ntmps11
    go_wp2_with fail
    refine (HC1.out _ HRz.out).mono ?_
    rintro e w' ⟨rfl, hw⟩
    subst w'
    go_wp2
    refine bodyPost_ret (v := .tuple #[.agg #[.slice none 0 0, .int .i64 0, .int .i64 0, .slice none 0 0, .int .i64 0], .bool false]) (by simp [results, Tryd.results11, go_sem]; try rfl) rfl ?_
    exact ⟨none, 0, none, 0, rfl, World.ownsRow_nil _ _ _ _, World.ownsRow_nil _ _ _ _, by first | exact balloc w _ | exact below_two w _ _ | exact below_three w _ _ _⟩
  by_cases h2 : letB l = true
  case neg =>
    rw [Bool.not_eq_true] at h2
    have h : tripOk xs l lo = false := by unfold tripOk; rw [h2]; simp
    rw [trip_no h, h]
    rw [h1] at HC1
    rw [h2] at c2
    clear h h1 h2 hx
    go_enter Tryd.func11, Tryd.ntmps11
    go_wp2_with fail
    refine (HC1.out _ HRz.out).mono ?_
    rintro e w' ⟨rfl, hw⟩
    subst w'
    go_wp2_with fail
    refine (c2 _).mono ?_
    rintro e w' ⟨rfl, hw⟩
    subst w'
    go_wp2
    refine bodyPost_ret (v := .tuple #[.agg #[.slice none 0 0, .int .i64 0, .int .i64 0, .slice none 0 0, .int .i64 0], .bool false]) (by simp [results, Tryd.results11, go_sem]; try rfl) rfl ?_
    exact ⟨none, 0, none, 0, rfl, World.ownsRow_nil _ _ _ _, World.ownsRow_nil _ _ _ _, by first | exact balloc w _ | exact below_two w _ _ | exact below_three w _ _ _⟩
  have c3 := fun wx => l1In_c lo (-1) ((n : Int) - 1) wx
  by_cases h34 : -1 ≤ lo ∧ lo ≤ (n : Int) - 1
  case neg =>
    have h : tripOk xs l lo = false := by rw [Bool.eq_false_iff]; intro g; have := trip_parts g; omega
    rw [trip_no h, h]
    rw [h1] at HC1
    rw [h2] at c2
    rw [decide_eq_false h34] at c3
    clear h h1 h2 hx h34
    go_enter Tryd.func11, Tryd.ntmps11
    go_wp2_with fail
    refine (HC1.out _ HRz.out).mono ?_
    rintro e w' ⟨rfl, hw⟩
    subst w'
    go_wp2_with fail
    refine (c2 _).mono ?_
    rintro e w' ⟨rfl, hw⟩
    subst w'
    go_wp2_with fail
    refine (c3 _).mono ?_
    rintro e w' ⟨rfl, hw⟩
    subst w'
    go_wp2
    refine bodyPost_ret (v := .tuple #[.agg #[.slice none 0 0, .int .i64 0, .int .i64 0, .slice none 0 0, .int .i64 0], .bool false]) (by simp [results, Tryd.results11, go_sem]; try rfl) rfl ?_
    exact ⟨none, 0, none, 0, rfl, World.ownsRow_nil _ _ _ _, World.ownsRow_nil _ _ _ _, by first | exact balloc w _ | exact below_two w _ _ | exact below_three w _ _ _⟩
  rw [decide_eq_true h34] at c3
  have h3 : -1 ≤ lo := h34.1
  have h4 : lo < (n : Int) := by omega
  clear h34
  have h : tripOk xs l lo = true := by unfold tripOk; rw [h1, h2, hx]; simp; omega
  have hlen := secsH_len h1
  rw [hx] at hlen
  have hlb : 0 ≤ l ∧ l ≤ 1000 := (trip_parts h).2.1
  rw [trip_yes h, h, hx]
  rw [h1] at HC1
  rw [h2] at c2
  have HA : Hid (allB xs 1 1498 = true) := secsH_all h1
  have HX : Hid (xs.length = n) := hx
  have hat : 0 ≤ atI n lo ∧ atI n lo < n := by unfold atI; split <;> omega
  have hlo : (lo = -1 ∧ atI n lo = (n : Int) - 1) ∨ (0 ≤ lo ∧ atI n lo = lo) := by unfold atI; split <;> omega
  generalize atI n lo = a at *
  obtain ⟨A, hA⟩ : ∃ A : Nat, a.toNat + 1 = A := ⟨_, rfl⟩
  have hA1 : (A : Int) = a + 1 := by omega
  rw [hA]
  have HA1 : Hid ((A : Int) = a + 1) := hA1
  have HLo : Hid ((lo = -1 ∧ a = (n : Int) - 1) ∨ (0 ≤ lo ∧ a = lo)) := hlo
  have hAn : A ≤ n := by omega
  simp only [handsL_length, recsL_length]
  clear h h1 h2 hx hA hA1 hlo
  have HZ0 : Hid (X5 ((w.alloc (.cells #[.slice none 0 0, .int .i64 0, .int .i64 0, .slice none 0 0, .int .i64 0] 28)).alloc (.cells #[.slice none 0 0, .int .i64 l, .int .i64 0, .slice none 0 0, .int .i64 lo] 28)) w.heap.size (.slice none 0 0) (.int .i64 0) (.int .i64 0) (.slice none 0 0) (.int .i64 0)) := (x5_new w _ _ _ _ _ _ _ rfl).later (balloc _ _)
  have HT0 : Hid (X5 ((w.alloc (.cells #[.slice none 0 0, .int .i64 0, .int .i64 0, .slice none 0 0, .int .i64 0] 28)).alloc (.cells #[.slice none 0 0, .int .i64 l, .int .i64 0, .slice none 0 0, .int .i64 lo] 28)) (w.heap.size + 1) (.slice none 0 0) (.int .i64 l) (.int .i64 0) (.slice none 0 0) (.int .i64 lo)) := x5_new (w.alloc (.cells #[.slice none 0 0, .int .i64 0, .int .i64 0, .slice none 0 0, .int .i64 0] 28)) _ _ _ _ _ _ _ (by simp)
  have HB0 : Hid (Below w.heap.size w ((w.alloc (.cells #[.slice none 0 0, .int .i64 0, .int .i64 0, .slice none 0 0, .int .i64 0] 28)).alloc (.cells #[.slice none 0 0, .int .i64 l, .int .i64 0, .slice none 0 0, .int .i64 lo] 28))) := below_two w _ _
  have HS0 : Hid (w.heap.size + 2 ≤ ((w.alloc (.cells #[.slice none 0 0, .int .i64 0, .int .i64 0, .slice none 0 0, .int .i64 0] 28)).alloc (.cells #[.slice none 0 0, .int .i64 l, .int .i64 0, .slice none 0 0, .int .i64 lo] 28)).heap.size) := by show _ ≤ _; simp
  go_enter Tryd.func11, Tryd.ntmps11
  go_wp2_with fail
  refine (HC1.out _ HRz.out).mono ?_
  rintro e w' ⟨rfl, hw⟩
  subst w'
  go_wp2_with fail
  refine (c2 _).mono ?_
  rintro e w' ⟨rfl, hw⟩
  subst w'
  go_wp2_with fail
  refine (c3 _).mono ?_
  rintro e w' ⟨rfl, hw⟩
  subst w'
  go_wp2
  obtain ⟨V0, hV0⟩ : ∃ V, (w.alloc (.cells #[.slice none 0 0, .int .i64 0, .int .i64 0, .slice none 0 0, .int .i64 0] 28)).alloc (.cells #[.slice none 0 0, .int .i64 l, .int .i64 0, .slice none 0 0, .int .i64 lo] 28) = V := ⟨_, rfl⟩
  rw [hV0] at HZ0 HT0 HB0 HS0 ⊢
  clear hV0 c2 c3
  go_loopw [34] (fun i wr => ∃ (k : Nat) (v : Value), k ≤ n ∧ i = .int .i64 k ∧ Hid (X5 wr (w.heap.size + 1) v (.int .i64 l) (.int .i64 0) (.slice none 0 0) (.int .i64 lo)) ∧ Hid (X5 wr w.heap.size (.slice none 0 0) (.int .i64 0) (.int .i64 0) (.slice none 0 0) (.int .i64 0)) ∧ Hid (Own wr (w.heap.size + 2) v (handsL k)) ∧ Hid (Below w.heap.size w wr) ∧ Hid (w.heap.size + 2 ≤ wr.heap.size)) (fun i _ => n - (intOf i).toNat)
  case atStart => exact ⟨0, _, Nat.zero_le _, rfl, HT0, HZ0, World.ownsRow_nil _ _ _ _, HB0, HS0⟩
  case round =>
    obtain ⟨k, v, hk, rfl, HT, HZ, HH, HB, HS⟩ := hrel
    clear HT0 HZ0 HB0 HS0
    by_cases hlt : k < n
    · obtain ⟨a1, c1, w1, w2, hrun, hst, hT1, hT2, hZ2, hH2, hR2, hb2, hs2⟩ := hand_step (rs := []) HT.out HZ.out HH.out (World.ownsRow_nil _ _ _ _) (by omega) (by omega) (by omega) HS.out (by omega)
      have HT2 : Hid (X5 w2 (w.heap.size + 1) (.slice a1 (k + 1) c1) (.int .i64 l) (.int .i64 0) (.slice none 0 0) (.int .i64 lo)) := hT2
      have HZ2 : Hid (X5 w2 w.heap.size (.slice none 0 0) (.int .i64 0) (.int .i64 0) (.slice none 0 0) (.int .i64 0)) := hZ2
      have HH2 : Hid (Own w2 (w.heap.size + 2) (.slice a1 (k + 1) c1) (handsL (k + 1))) := hH2
      have HB2 : Hid (Below w.heap.size w w2) := HB.out.trans (hb2.mono (by omega))
      have HS2 : Hid (w.heap.size + 2 ≤ w2.heap.size) := hs2
      obtain ⟨⟨t0, t1, t2, t3, t4⟩, _⟩ := HT.out.later (balloc wr (.cells #[.int .i64 (k : Int)] 3))
      obtain ⟨⟨s0, s1, s2, s3, s4⟩, sf⟩ := hT1
      have sf0 := sf 0
      obtain ⟨⟨p0, p1, p2, p3, p4⟩, _⟩ := id HT.out
      clear hT2 hZ2 hH2 hR2 hb2 hs2 sf HT HZ HH
      go_wp2_with (at_builtin; refine Lib.wpList_append_run _ rfl _ _ _ _ rfl _ _ rfl rfl _ _ (hrun _) ?_; clear hrun)
      go_wp2
      go_roundw
      case rel => exact ⟨k + 1, _, by omega, by go_num, HT2, HZ2, HH2, HB2, HS2⟩
      case measure => simp [intOf]; omega
    · obtain rfl : n = k := by omega
      obtain ⟨ha, hc, hv⟩ := HH.out.shape
      rw [handsL_length] at hv
      subst hv
      go_wp2
      go_loopw [46] (fun i wq => ∃ (k : Nat) (u : Value) (a' : Int), k ≤ n ∧ i = .int .i64 k ∧ Hid (lo = -1 ∨ (k : Int) ≤ lo) ∧ Hid (k = 0 ∧ a' = 0 ∨ 0 < k ∧ a' = (k : Int) - 1) ∧ Hid (X5 wq (w.heap.size + 1) (.slice ha n hc) (.int .i64 l) (.int .i64 a') u (.int .i64 lo)) ∧ Hid (X5 wq w.heap.size (.slice none 0 0) (.int .i64 0) (.int .i64 0) (.slice none 0 0) (.int .i64 0)) ∧ Hid (Own wq (w.heap.size + 2) (.slice ha n hc) (handsL n)) ∧ Hid (OwnR wq (w.heap.size + 2) u (recsL xs l k)) ∧ Hid (Below w.heap.size w wq) ∧ Hid (w.heap.size + 2 ≤ wq.heap.size)) (fun i _ => n - (intOf i).toNat)
      case atStart => exact ⟨0, _, 0, Nat.zero_le _, rfl, (by show _ ∨ _; have := HLo.out; omega), Or.inl ⟨rfl, rfl⟩, HT, HZ, HH, World.ownsRow_nil _ _ _ _, HB, HS⟩
      case round =>
        clear HT HZ HH HB HS
        obtain ⟨k, u, a', hk, rfl, HK, HA', HT, HZ, HH, HRc, HB, HS⟩ := hrel
        by_cases hlt2 : k < n
        · have hkl : k < xs.length := by rw [HX.out]; exact hlt2
          obtain ⟨b, o, rfl, gx⟩ := (HR.out.later HB.out).get hkl
          have hxk := allB_getD HA.out k hkl
          obtain ⟨x, hxe⟩ : ∃ x, xs.getD k 0 = x := ⟨_, rfl⟩
          rw [hxe] at gx hxk
          have HXE : Hid (xs.getD k 0 = x) := hxe
          clear hxe hkl
          have hT1 := HT.out.set2 (.int .i64 (k : Int))
          have hZ1 := HZ.out.other (r' := w.heap.size + 1) (j' := 2) (u := .int .i64 (k : Int)) (by omega)
          have hH1 := HH.out.kept (grown_setCell wr (w.heap.size + 1) 2 (.int .i64 (k : Int))) (sep_lt (own_block_ge HH.out) (by omega))
          have hR1 := HRc.out.kept (grown_setCell wr (w.heap.size + 1) 2 (.int .i64 (k : Int))) (sep_lt (own_block_geR HRc.out) (by omega))
          have hB1 : Below w.heap.size w (wr.setCell ⟨w.heap.size + 1, 2, none⟩ (.int .i64 (k : Int))) := HB.out.setCell (by show w.heap.size ≤ w.heap.size + 1; omega) (.int .i64 (k : Int))
          have hS1 : w.heap.size + 2 ≤ (wr.setCell ⟨w.heap.size + 1, 2, none⟩ (.int .i64 (k : Int))).heap.size := Nat.le_trans HS.out (grown_setCell wr (w.heap.size + 1) 2 (.int .i64 (k : Int))).size
          obtain ⟨w2, hst⟩ : ∃ V, wr.setCell ⟨w.heap.size + 1, 2, none⟩ (.int .i64 (k : Int)) = V := ⟨_, rfl⟩
          rw [hst] at hT1 hZ1 hH1 hR1 hB1 hS1
          have HT2 : Hid (X5 w2 (w.heap.size + 1) (.slice ha n hc) (.int .i64 l) (.int .i64 (k : Int)) u (.int .i64 lo)) := hT1
          have HZ2 : Hid (X5 w2 w.heap.size (.slice none 0 0) (.int .i64 0) (.int .i64 0) (.slice none 0 0) (.int .i64 0)) := hZ1
          have HH2 : Hid (Own w2 (w.heap.size + 2) (.slice ha n hc) (handsL n)) := hH1
          have HR2 : Hid (OwnR w2 (w.heap.size + 2) u (recsL xs l k)) := hR1
          have HB2 : Hid (Below w.heap.size w w2) := hB1
          have HS2 : Hid (w.heap.size + 2 ≤ w2.heap.size) := hS1
          obtain ⟨⟨t0, t1, t2, t3, t4⟩, tf⟩ := id HT.out
          have tf2 := tf 2
          obtain ⟨⟨r0, r1, r2, r3, r4⟩, _⟩ := id hT1
          have HC4 : Hid (∀ wx, Calls Tryd.prog 51 #[.int .i64 x, .int .i64 ((k : Int) - 1), .int .i64 l] wx fun e w' => e = .returned (.agg #[.int .i64 ((k : Int) - 1), .int .i64 (k : Int), .int .i64 l, .int .i64 (signN x ((k : Int) - 1) l)]) ∧ Below wx.heap.size wx w') := fun wx => by have := l11Sign_c x ((k : Int) - 1) l wx hxk (by omega) hlb; rw [Int.sub_add_cancel] at this; exact this
          have hwrap : IntKind.i64.wrap ((k : Int) - 1) = (k : Int) - 1 := by rw [IntKind.wrap_i64]; omega
          have HWr : Hid (IntKind.i64.wrap ((k : Int) - 1) = (k : Int) - 1) := hwrap
          clear hT1 hZ1 hH1 hR1 hB1 hS1 tf HT HZ HH HRc hwrap
          go_wp2
          clear hst t0 t1 t2 t3 t4 tf2
          go_region_law (first
            | (go_simp; (try rw [HWr.out]); go_at_call 51; refine (HC4.out _).mono ?_; rintro e w3 ⟨rfl, hb0⟩; have hb : Below w2.heap.size w2 w3 := (by first | exact hb0 | exact ((Below.refl w2.heap.size w2).drew).trans hb0); have hX3 := HT2.out.later hb; have hB3 := HB2.out.trans (hb.mono HB2.out.size); obtain ⟨e1, f1, w4, w5, hrun, hst5, hT4, hT5, hZ5, hH5, hR5, hb5, hs5⟩ := rec_step ((k : Int) - 1) k l (signN x ((k : Int) - 1) l) (by unfold signR; rw [HXE.out, Int.sub_add_cancel]) hX3 (HZ2.out.later hb) (HH2.out.later hb) (HR2.out.later hb) (by omega) (by omega) (by omega) (by have := hb.size; have := HS2.out; omega) (by omega); have HT5 : Hid (X5 w5 (w.heap.size + 1) (.slice ha n hc) (.int .i64 l) (.int .i64 (k : Int)) (.slice e1 (k + 1) f1) (.int .i64 lo)) := hT5; have HZ5 : Hid (X5 w5 w.heap.size (.slice none 0 0) (.int .i64 0) (.int .i64 0) (.slice none 0 0) (.int .i64 0)) := hZ5; have HH5 : Hid (Own w5 (w.heap.size + 2) (.slice ha n hc) (handsL n)) := hH5; have HR5 : Hid (OwnR w5 (w.heap.size + 2) (.slice e1 (k + 1) f1) (recsL xs l (k + 1))) := hR5; have HB5 : Hid (Below w.heap.size w w5) := hB3.trans (hb5.mono (by omega)); have HS5 : Hid (w.heap.size + 2 ≤ w5.heap.size) := hs5; obtain ⟨⟨x0, x1, x2, x3, x4⟩, xf⟩ := hT4; have xf3 := xf 3; obtain ⟨⟨y0, y1, y2, y3, y4⟩, _⟩ := id hX3; obtain ⟨⟨m0, m1, m2, m3, m4⟩, _⟩ := hX3.later (balloc w3 (.cells #[.int .i64 ((k : Int) - 1), .int .i64 k, .int .i64 l, .int .i64 (signN x ((k : Int) - 1) l)] 43)); clear hX3 hB3 hb hb0 hT5 hZ5 hH5 hR5 hb5 hs5 xf)
            | (refine step_append_run rfl (.tmp 54) (.tmp 60) 26 26 rfl u (.slice (some ⟨w3.heap.size, 0, none⟩) 1 1) (by simp [Act.eval, Act.put]) (by simp [Act.eval, Act.put]) (hrun _) ?_))
          all_goals (
            clear hst5 y0 y1 y2 y3 y4 m0 m1 m2 m3 m4 x0 x1 x2 x3 x4 xf3 hrun
            obtain ⟨⟨s0, s1, s2, s3, s4⟩, _⟩ := id HT5.out
            by_cases hkl : (k : Int) = lo
            · have e9 : ((k : Int) == lo) = true := by simpa using hkl
              have hAk : A = k + 1 := by have := HA1.out; have := HLo.out; omega
              have hak : a = (k : Int) := by have := HLo.out; omega
              have HAk : Hid (A = k + 1) := hAk
              have Hak : Hid (a = (k : Int)) := hak
              clear hkl hAk hak
              obtain ⟨⟨z0, z1, z2, z3, z4⟩, zf⟩ := id HZ5.out
              have zf0 := zf 0
              have zf1 := zf 1
              have zf2 := zf 2
              have zf3 := zf 3
              have zf4 := zf 4
              have hZ9 := ((((HZ5.out.set0 (.slice ha n hc)).set1 (.int .i64 l)).set2 (.int .i64 (k : Int))).set3 (.slice e1 (k + 1) f1)).set4 (.int .i64 lo)
              obtain ⟨⟨y0, y1, y2, y3, y4⟩, _⟩ := hZ9
              clear zf
              go_wp2
              refine bodyPost_ret (v := .tuple #[.agg #[.slice ha n hc, .int .i64 l, .int .i64 (k : Int), .slice e1 (k + 1) f1, .int .i64 lo], .bool true]) (by simp [results, Tryd.results11, go_sem, y0, y1, y2, y3, y4]; try rfl) rfl ?_
              rw [HAk.out, Hak.out]
              have hg : w5.grownBy _ (some w.heap.size) := grown_trans' (grown_trans' (grown_trans' (grown_trans' (grown_setCell w5 w.heap.size 0 (.slice ha n hc)) (grown_setCell _ w.heap.size 1 (.int .i64 l))) (grown_setCell _ w.heap.size 2 (.int .i64 (k : Int)))) (grown_setCell _ w.heap.size 3 (.slice e1 (k + 1) f1))) (grown_setCell _ w.heap.size 4 (.int .i64 lo))
              exact ⟨ha, hc, e1, f1, rfl, (HH5.out.kept hg (sep_lt (own_block_ge HH5.out) (by omega))).mono (by omega), (HR5.out.kept hg (sep_lt (own_block_geR HR5.out) (by omega))).mono (by omega), ((((HB5.out.setCell (Nat.le_refl _) _).setCell (Nat.le_refl _) _).setCell (Nat.le_refl _) _).setCell (Nat.le_refl _) _).setCell (Nat.le_refl _) _⟩
            · have e9 : ((k : Int) == lo) = false := by simpa using hkl
              have HK2 : Hid (lo = -1 ∨ ((k + 1 : Nat) : Int) ≤ lo) := by have := HK.out; show _ ∨ _; omega
              clear hkl
              go_wp2
              go_roundw
              case rel => exact ⟨k + 1, _, (k : Int), by omega, by go_num, HK2, Or.inr ⟨by omega, by omega⟩, HT5, HZ5, HH5, HR5, HB5, HS5⟩
              case measure => simp [intOf]; omega)
        · obtain rfl : n = k := by omega
          have hlo1 : lo = -1 := by have := HK.out; omega
          have hAk : A = n := by have := HA1.out; have := HLo.out; omega
          have hak : a = a' := by have := HLo.out; have := HA'.out; omega
          have HAk : Hid (A = n) := hAk
          have Hak : Hid (a = a') := hak
          obtain ⟨ra, rc, hu⟩ := HRc.out.shape
          rw [recsL_length] at hu
          subst hu
          obtain ⟨⟨t0, t1, t2, t3, t4⟩, _⟩ := id HT.out
          clear hlo1 hAk hak
          obtain ⟨⟨z0, z1, z2, z3, z4⟩, zf⟩ := id HZ.out
          have zf0 := zf 0
          have zf1 := zf 1
          have zf2 := zf 2
          have zf3 := zf 3
          have zf4 := zf 4
          have hZ9 := ((((HZ.out.set0 (.slice ha n hc)).set1 (.int .i64 l)).set2 (.int .i64 a')).set3 (.slice ra n rc)).set4 (.int .i64 lo)
          obtain ⟨⟨y0, y1, y2, y3, y4⟩, _⟩ := hZ9
          clear zf
          go_wp2
          refine bodyPost_ret (v := .tuple #[.agg #[.slice ha n hc, .int .i64 l, .int .i64 a', .slice ra n rc, .int .i64 lo], .bool true]) (by simp [results, Tryd.results11, go_sem, y0, y1, y2, y3, y4]; try rfl) rfl ?_
          rw [HAk.out, Hak.out]
          have hg : wr.grownBy _ (some w.heap.size) := grown_trans' (grown_trans' (grown_trans' (grown_trans' (grown_setCell wr w.heap.size 0 (.slice ha n hc)) (grown_setCell _ w.heap.size 1 (.int .i64 l))) (grown_setCell _ w.heap.size 2 (.int .i64 a'))) (grown_setCell _ w.heap.size 3 (.slice ra n rc))) (grown_setCell _ w.heap.size 4 (.int .i64 lo))
          exact ⟨ha, hc, ra, rc, rfl, (HH.out.kept hg (sep_lt (own_block_ge HH.out) (by omega))).mono (by omega), (HRc.out.kept hg (sep_lt (own_block_geR HRc.out) (by omega))).mono (by omega), ((((HB.out.setCell (Nat.le_refl _) _).setCell (Nat.le_refl _) _).setCell (Nat.le_refl _) _).setCell (Nat.le_refl _) _).setCell (Nat.le_refl _) _⟩

end Go.Proofs.YtdhnolafkgkliaaDoor
