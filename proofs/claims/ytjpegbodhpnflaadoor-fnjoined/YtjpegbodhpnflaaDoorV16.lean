/- Chapter 16: TakeNumber of the program. -/
import Derived.Test.YtjpegbodhpnflaaDoorLS16
namespace Go.Proofs.YtjpegbodhpnflaaDoor
set_option linter.unusedVariables false
set_option maxRecDepth 1000000
set_option linter.unusedSimpArgs false
open Go.RowKit

/-- What TakeNumber answers: the window and the code; nothing where the window or the number is not good. -/
def takeT (t x n : Int) : (Int × Int) × Int := if goodWn t x = true ∧ playB n = true then (((takeW t x.toNat n).1.1, ((takeW t x.toNat n).1.2 : Nat)), (takeW t x.toNat n).2) else ((0, 0), 0)
def takeOk (t x n : Int) : Bool := goodWn t x && playB n
theorem takeT_good {t n : Int} {b : Nat} (h : GoodW t b) (hn : playB n = true) : takeT t b n = (((takeW t b n).1.1, (((takeW t b n).1.2 : Nat) : Int)), (takeW t b n).2) ∧ takeOk t b n = true := by
  unfold takeT takeOk
  rw [if_pos ⟨goodWn_at h, hn⟩, goodWn_at h, hn, Int.toNat_natCast]
  exact ⟨rfl, rfl⟩
theorem takeT_bad {t x n : Int} (h : takeOk t x n = false) : takeT t x n = ((0, 0), 0) := by
  unfold takeT
  rw [if_neg]
  rintro ⟨h1, h2⟩
  unfold takeOk at h
  rw [h1, h2] at h
  cases h

theorem playB_bd {n : Int} (h : playB n = true) : 1 ≤ n ∧ n ≤ 100000 := by unfold playB at h; exact of_decide_eq_true h

theorem takeW_same {t : Int} {b : Nat} {n : Int} (hc : (takeW t b n).2 ≠ 0) : (takeW t b n).1 = (t, b) := by
  unfold takeW at hc ⊢
  by_cases h1 : 16 ≤ t - n
  · rw [if_pos h1]
  rw [if_neg h1] at hc ⊢
  by_cases h2 : 0 ≤ t - n ∧ b.testBit (t - n).toNat = true
  · rw [if_pos h2]
  rw [if_neg h2] at hc ⊢
  by_cases h3 : 0 ≤ t - n
  · rw [if_pos h3] at hc; exact absurd rfl hc
  rw [if_neg h3] at hc
  split at hc <;> exact absurd rfl hc

theorem set2 (w : World) (g : Nat) (u v : Value) {x y : Value} (h0 : w.cell? ⟨g, 0, none⟩ = some x) (h1 : w.cell? ⟨g, 1, none⟩ = some y) :
    ((w.setCell ⟨g, 0, none⟩ u).setCell ⟨g, 1, none⟩ v).cell? ⟨g, 0, none⟩ = some u ∧ ((w.setCell ⟨g, 0, none⟩ u).setCell ⟨g, 1, none⟩ v).cell? ⟨g, 1, none⟩ = some v := by
  constructor
  · rw [World.cell?_setCell_other _ _ _ _ (by simp)]
    exact World.cell?_setCell_same _ _ _ h0
  · exact World.cell?_setCell_same _ _ _ (by rw [World.cell?_setCell_other _ _ _ _ (by simp)]; exact h1)

set_option maxHeartbeats 2000000 in
theorem implTake_c (t x n : Int) (w : World) (ht : Tb w) (hx64 : -9223372036854775808 ≤ x ∧ x ≤ 9223372036854775807) :
    Calls Tryd.prog 19 #[.agg #[.int .i64 t, .int .i64 x], .int .i64 n] w fun e w' => e = .returned (.tuple #[.agg #[.int .i64 (takeT t x n).1.1, .int .i64 (takeT t x n).1.2], .int .i64 (takeT t x n).2, .bool (takeOk t x n)]) ∧ Below w.heap.size w w' := by
  obtain ⟨W, hW⟩ : ∃ X, (w.alloc (.cells #[.int .i64 t, .int .i64 x] 26)).alloc (.cells #[.int .i64 0, .int .i64 0] 26) = X := ⟨_, rfl⟩
  have hb1 : W.heap[w.heap.size]? = some (.cells #[.int .i64 t, .int .i64 x] 26 (0, 0)) := by rw [← hW]; exact (Lib.alloc_old _ _ _ (by simp)).trans (heap_alloc_new w _)
  have hb2 : W.heap[w.heap.size + 1]? = some (.cells #[.int .i64 0, .int .i64 0] 26 (0, 0)) := by
    rw [← hW]
    have h := heap_alloc_new (w.alloc (.cells #[.int .i64 t, .int .i64 x] 26)) (.cells #[.int .i64 0, .int .i64 0] 26)
    simpa using h
  have hsz : W.heap.size = w.heap.size + 2 := by rw [← hW]; simp
  have HB0 : Hid (Below w.heap.size w W) := by rw [← hW]; exact ((Below.refl _ _).alloc (Nat.le_refl _) _).alloc (by simp) _
  have q := goodWindow_c t x W (ht.later HB0.out) hx64
  have qp : Hid (∀ wx, Calls Tryd.prog 39 #[.int .i64 n] wx fun e w' => e = .returned (.bool (playB n)) ∧ w' = wx) := fun wx => isPlayable_c n wx
  have HF : Hid (∀ w2, Below W.heap.size W w2 → (w2.cell? ⟨w.heap.size, 0, none⟩ = some (.int .i64 t) ∧ w2.cell? ⟨w.heap.size, 1, none⟩ = some (.int .i64 x) ∧ w2.frozen? ⟨w.heap.size, 0, none⟩ = false ∧ w2.frozen? ⟨w.heap.size, 1, none⟩ = false) ∧ w2.cell? ⟨w.heap.size + 1, 0, none⟩ = some (.int .i64 0) ∧ w2.cell? ⟨w.heap.size + 1, 1, none⟩ = some (.int .i64 0) ∧ w2.frozen? ⟨w.heap.size + 1, 0, none⟩ = false ∧ w2.frozen? ⟨w.heap.size + 1, 1, none⟩ = false) := fun w2 h => ⟨cell2 h (by omega) hb1, cell2 h (by omega) hb2⟩
  have HW0 := HF.out W (Below.refl _ _)
  cases hg : goodWn t x
  · have hk : takeOk t x n = false := by unfold takeOk; rw [hg]; rfl
    rw [takeT_bad hk, hk]
    rw [hg] at q
    obtain ⟨⟨a0, a1, _, _⟩, _⟩ := HW0
    clear hb1 hb2 hg hk
    go_enter Tryd.func19, Tryd.ntmps19
    go_wp2_with fail
    refine q.mono ?_
    clear q a0 a1
    rintro e w1 ⟨rfl, b1⟩
    obtain ⟨_, c0, c1, f0, f1⟩ := HF.out _ b1
    have B1 : Hid (∀ u v, Below w.heap.size w ((w1.setCell ⟨w.heap.size + 1, 0, none⟩ u).setCell ⟨w.heap.size + 1, 1, none⟩ v)) := fun u v => ((HB0.out.trans (b1.mono HB0.out.size)).setCell (p := ⟨w.heap.size + 1, 0, none⟩) (by show w.heap.size ≤ w.heap.size + 1; omega) u).setCell (p := ⟨w.heap.size + 1, 1, none⟩) (by show w.heap.size ≤ w.heap.size + 1; omega) v
    obtain ⟨hc0, hc1⟩ := set2 w1 (w.heap.size + 1) (.int .i64 0) (.int .i64 0) c0 c1
    clear b1 hW
    go_wp2
    refine bodyPost_ret (v := .tuple #[.agg #[.int .i64 0, .int .i64 0], .int .i64 0, .bool false]) (by simp [results, Tryd.results19, go_sem, hc0, hc1]; try rfl) rfl ?_
    exact ⟨rfl, B1.out _ _⟩
  cases hp : playB n
  · have hk : takeOk t x n = false := by unfold takeOk; rw [hg, hp]; rfl
    rw [takeT_bad hk, hk]
    rw [hg] at q
    rw [hp] at qp
    obtain ⟨⟨a0, a1, _, _⟩, _⟩ := HW0
    clear hb1 hb2 hg hk hp
    go_enter Tryd.func19, Tryd.ntmps19
    go_wp2_with fail
    refine q.mono ?_
    clear q a0 a1
    rintro e w1 ⟨rfl, b1⟩
    obtain ⟨_, c0, c1, f0, f1⟩ := HF.out _ b1
    have B1 : Hid (∀ u v, Below w.heap.size w ((w1.setCell ⟨w.heap.size + 1, 0, none⟩ u).setCell ⟨w.heap.size + 1, 1, none⟩ v)) := fun u v => ((HB0.out.trans (b1.mono HB0.out.size)).setCell (p := ⟨w.heap.size + 1, 0, none⟩) (by show w.heap.size ≤ w.heap.size + 1; omega) u).setCell (p := ⟨w.heap.size + 1, 1, none⟩) (by show w.heap.size ≤ w.heap.size + 1; omega) v
    obtain ⟨hc0, hc1⟩ := set2 w1 (w.heap.size + 1) (.int .i64 0) (.int .i64 0) c0 c1
    clear b1 hW
    go_wp2_with (go_at_call 39; refine (qp.out _).mono ?_; clear qp; rintro e w2 ⟨rfl, hw⟩; subst w2)
    refine bodyPost_ret (v := .tuple #[.agg #[.int .i64 0, .int .i64 0], .int .i64 0, .bool false]) (by simp [results, Tryd.results19, go_sem, hc0, hc1]; try rfl) rfl ?_
    exact ⟨rfl, B1.out _ _⟩
  obtain ⟨hx0, hG⟩ := goodWn_of hg
  obtain ⟨b, rfl⟩ : ∃ b : Nat, x = b := ⟨x.toNat, by omega⟩
  rw [Int.toNat_natCast] at hG
  obtain ⟨eT, eK⟩ := takeT_good hG hp
  have hn := playB_bd hp
  rw [eT, eK]
  rw [hg] at q
  rw [hp] at qp
  have hcode := goodW_code hG n
  have htop := goodW_top hG
  have hGt := hG.1
  have hGt2 := hG.2.1
  have HN : Hid (∀ wx, Below w.heap.size w wx → Calls Tryd.prog 45 #[.agg #[.int .i64 t, .int .i64 b]] wx fun e w' => ∃ ao c, e = .returned (.slice ao (RL 16 b t).length c) ∧ Own w' wx.heap.size (.slice ao (RL 16 b t).length c) (RL 16 b t) ∧ Below wx.heap.size wx w') := fun wx h => by
    have h2 := numbersSeen_c t b wx hG.2.2.1 (ht.later h)
    rw [seen_good hG] at h2
    exact h2
  have hl16 := RL_len 16 b t
  have hris := RL_ris 16 b t
  by_cases hc : (takeW t b n).2 = 0
  · have hm : n ∉ RL 16 b t := fun e => by
      rw [hc] at hcode
      unfold codeL at hcode
      rw [if_pos e] at hcode
      cases hcode
    have hbits := take_bits hG hn.1 hc
    have htop2 := ins_top hG hn.1 hm
    have hris2 := insL_ris ordI n hris hm
    have hl2 := insL_length (lt := ltI) n (RL 16 b t)
    rw [hc] at hcode
    rw [hbits, hc]
    show Calls _ _ _ _ fun e w' => e = .returned (.tuple #[.agg #[.int .i64 (max t n), .int .i64 (WB 16 (max t n) (insL ltI n (RL 16 b t)) : Nat)], .int .i64 0, .bool true]) ∧ _
    have HWd : Hid (∀ wx ao c, Rd wx ao (insL ltI n (RL 16 b t)) → Calls Tryd.prog 49 #[.slice ao ((RL 16 b t).length + 1) c] wx fun e w' => e = .returned (.agg #[.int .i64 (max t n), .int .i64 (WB 16 (max t n) (insL ltI n (RL 16 b t)) : Nat)]) ∧ Below wx.heap.size wx w') := fun wx ao c h => by
      have h2 := windowOf_c ao ((RL 16 b t).length + 1) c (insL ltI n (RL 16 b t)) wx hl2 (by omega) h hris2 (by rw [htop2]; omega)
      rw [htop2] at h2
      exact h2
    have HWi : Hid (∀ wx ao c, Rd wx ao (RL 16 b t) → (ao = none → (RL 16 b t).length = 0 ∧ c = 0) → Calls Tryd.prog 43 #[.slice ao (RL 16 b t).length c, .int .i64 n] wx fun e w' => ∃ a' c', e = .returned (.slice a' ((RL 16 b t).length + 1) c') ∧ Own w' wx.heap.size (.slice a' ((RL 16 b t).length + 1) c') (insL ltI n (RL 16 b t)) ∧ Below wx.heap.size wx w') := fun wx ao c h h0 => withI_c ao _ c (RL 16 b t) n wx rfl (by omega) h h0 hris
    have HCo : Hid (∀ wx ao c, Rd wx ao (RL 16 b t) → Calls Tryd.prog 42 #[.slice ao (RL 16 b t).length c, .int .i64 n] wx fun e w' => e = .returned (.int .i64 0) ∧ Below wx.heap.size wx w') := fun wx ao c h => by
      have h2 := codeFor_c ao _ c (RL 16 b t) n wx rfl (by omega) h hris hn (by rw [htop]; omega)
      rw [hcode] at h2
      exact h2
    generalize WB 16 (max t n) (insL ltI n (RL 16 b t)) = R at HWd ⊢
    generalize max t n = T at HWd ⊢
    generalize insL ltI n (RL 16 b t) = ys at HWd HWi hl2
    generalize RL 16 b t = xs at HN HWd HWi HCo hl16
    clear hbits htop2 hris2 hl2 hm hcode htop hris eT eK hg hp hG hb1 hb2
    obtain ⟨⟨a0, a1, _, _⟩, _⟩ := HW0
    go_enter Tryd.func19, Tryd.ntmps19
    go_wp2_with fail
    refine q.mono ?_
    clear q a0 a1
    rintro e w1 ⟨rfl, b1⟩
    have B1 : Hid (Below W.heap.size W w1) := b1
    obtain ⟨⟨a0, a1, _, _⟩, _⟩ := HF.out _ b1
    clear b1
    go_wp2_with (go_at_call 39; refine (qp.out _).mono ?_; clear qp; rintro e w2 ⟨rfl, hw⟩; subst w2)
    refine (HN.out _ (HB0.out.trans (B1.out.mono HB0.out.size))).mono ?_
    clear HN a0 a1
    rintro e w2 ⟨ao, c, rfl, ho, b2⟩
    have HO2 : Hid (Own w2 w1.heap.size (.slice ao xs.length c) xs) := ho
    have HZ : Hid (ao = none → xs.length = 0 ∧ c = 0) := fun e => by
      rcases ho.form with ⟨h, h2⟩ | ⟨g, cap, h, _⟩
      · injection h with h3 h4 h5
        exact ⟨h4, h5⟩
      · rw [e] at h; cases h
    have B2 : Hid (Below W.heap.size W w2) := B1.out.trans (b2.mono B1.out.size)
    clear b2 ho B1
    go_wp2_with fail
    refine (HCo.out _ _ _ HO2.out.rd'.2).mono ?_
    clear HCo
    rintro e w3 ⟨rfl, b3⟩
    have HO3 : Hid (Own w3 w1.heap.size (.slice ao xs.length c) xs) := HO2.out.later b3
    have B3 : Hid (Below W.heap.size W w3) := B2.out.trans (b3.mono B2.out.size)
    clear b3 HO2 B2
    go_wp2_with fail
    refine (HWi.out _ _ _ HO3.out.rd'.2 HZ.out).mono ?_
    clear HWi
    rintro e w4 ⟨a', c', rfl, ho, b4⟩
    have HO4 : Hid (Own w4 w3.heap.size (.slice a' (xs.length + 1) c') ys) := ho
    have B4 : Hid (Below W.heap.size W w4) := B3.out.trans (b4.mono B3.out.size)
    clear b4 HO3 B3 ho
    go_wp2_with fail
    refine (HWd.out _ _ _ HO4.out.rd'.2).mono ?_
    clear HWd
    rintro e w5 ⟨rfl, b5⟩
    have b5' := B4.out.trans (b5.mono B4.out.size)
    obtain ⟨⟨a0, a1, f0, f1⟩, c0, c1, f2, f3⟩ := HF.out _ b5'
    have B5 : Hid (∀ u v u' v', Below w.heap.size w ((((w5.setCell ⟨w.heap.size, 0, none⟩ u').setCell ⟨w.heap.size, 1, none⟩ v').setCell ⟨w.heap.size + 1, 0, none⟩ u).setCell ⟨w.heap.size + 1, 1, none⟩ v)) := fun u v u' v' => (((((HB0.out.trans (b5'.mono HB0.out.size)).setCell (p := ⟨w.heap.size, 0, none⟩) (Nat.le_refl _) u').setCell (p := ⟨w.heap.size, 1, none⟩) (Nat.le_refl _) v').setCell (p := ⟨w.heap.size + 1, 0, none⟩) (by show w.heap.size ≤ w.heap.size + 1; omega) u).setCell (p := ⟨w.heap.size + 1, 1, none⟩) (by show w.heap.size ≤ w.heap.size + 1; omega) v)
    obtain ⟨ha0, ha1⟩ := set2 w5 w.heap.size (.int .i64 T) (.int .i64 R) a0 a1
    obtain ⟨W6, hW6⟩ : ∃ X, (w5.setCell ⟨w.heap.size, 0, none⟩ (.int .i64 T)).setCell ⟨w.heap.size, 1, none⟩ (.int .i64 R) = X := ⟨_, rfl⟩
    have d0 : W6.cell? ⟨w.heap.size + 1, 0, none⟩ = some (.int .i64 0) := by rw [← hW6, World.cell?_setCell_other _ _ _ _ (by simp), World.cell?_setCell_other _ _ _ _ (by simp)]; exact c0
    have d1 : W6.cell? ⟨w.heap.size + 1, 1, none⟩ = some (.int .i64 0) := by rw [← hW6, World.cell?_setCell_other _ _ _ _ (by simp), World.cell?_setCell_other _ _ _ _ (by simp)]; exact c1
    have g0 : W6.frozen? ⟨w.heap.size + 1, 0, none⟩ = false := by rw [← hW6, World.frozen?_setCell, World.frozen?_setCell]; exact f2
    have g1 : W6.frozen? ⟨w.heap.size + 1, 1, none⟩ = false := by rw [← hW6, World.frozen?_setCell, World.frozen?_setCell]; exact f3
    have B6 : Hid (∀ u v, Below w.heap.size w ((W6.setCell ⟨w.heap.size + 1, 0, none⟩ u).setCell ⟨w.heap.size + 1, 1, none⟩ v)) := fun u v => by rw [← hW6]; exact B5.out u v _ _
    rw [hW6] at ha0 ha1
    obtain ⟨hc0, hc1⟩ := set2 W6 (w.heap.size + 1) (.int .i64 T) (.int .i64 R) d0 d1
    clear b5 b5' c0 c1 f2 f3 hW HO4 B4 B5
    go_wp2
    refine bodyPost_ret (v := .tuple #[.agg #[.int .i64 T, .int .i64 R], .int .i64 0, .bool true]) (by simp [results, Tryd.results19, go_sem, hc0, hc1]; try rfl) rfl ?_
    exact ⟨rfl, B6.out _ _⟩
  · have hsame := takeW_same hc
    rw [hsame]
    have HCo : Hid (∀ wx ao c, Rd wx ao (RL 16 b t) → Calls Tryd.prog 42 #[.slice ao (RL 16 b t).length c, .int .i64 n] wx fun e w' => e = .returned (.int .i64 (takeW t b n).2) ∧ Below wx.heap.size wx w') := fun wx ao c h => by
      have h2 := codeFor_c ao _ c (RL 16 b t) n wx rfl (by omega) h hris hn (by rw [htop]; omega)
      rw [hcode] at h2
      exact h2
    have hcd : ((takeW t b n).2 == 0) = false := by rw [beq_eq_false_iff_ne]; exact hc
    generalize (takeW t b n).2 = cd at HCo hcd ⊢
    show Calls _ _ _ _ fun e w' => e = .returned (.tuple #[.agg #[.int .i64 t, .int .i64 b], .int .i64 cd, .bool true]) ∧ _
    generalize RL 16 b t = xs at HN HCo hl16
    clear hc hsame hcode htop hris eT eK hg hp hG hb1 hb2
    obtain ⟨⟨a0, a1, _, _⟩, _⟩ := HW0
    go_enter Tryd.func19, Tryd.ntmps19
    go_wp2_with fail
    refine q.mono ?_
    clear q a0 a1
    rintro e w1 ⟨rfl, b1⟩
    have B1 : Hid (Below W.heap.size W w1) := b1
    obtain ⟨⟨a0, a1, _, _⟩, _⟩ := HF.out _ b1
    clear b1
    go_wp2_with (go_at_call 39; refine (qp.out _).mono ?_; clear qp; rintro e w2 ⟨rfl, hw⟩; subst w2)
    refine (HN.out _ (HB0.out.trans (B1.out.mono HB0.out.size))).mono ?_
    clear HN a0 a1
    rintro e w2 ⟨ao, c, rfl, ho, b2⟩
    have HO2 : Hid (Own w2 w1.heap.size (.slice ao xs.length c) xs) := ho
    have B2 : Hid (Below W.heap.size W w2) := B1.out.trans (b2.mono B1.out.size)
    clear b2 ho B1
    go_wp2_with fail
    refine (HCo.out _ _ _ HO2.out.rd'.2).mono ?_
    clear HCo
    rintro e w5 ⟨rfl, b5⟩
    have b5' := B2.out.trans (b5.mono B2.out.size)
    obtain ⟨⟨a0, a1, f0, f1⟩, c0, c1, f2, f3⟩ := HF.out _ b5'
    have B5 : Hid (∀ u v, Below w.heap.size w ((w5.setCell ⟨w.heap.size + 1, 0, none⟩ u).setCell ⟨w.heap.size + 1, 1, none⟩ v)) := fun u v => (((HB0.out.trans (b5'.mono HB0.out.size)).setCell (p := ⟨w.heap.size + 1, 0, none⟩) (by show w.heap.size ≤ w.heap.size + 1; omega) u).setCell (p := ⟨w.heap.size + 1, 1, none⟩) (by show w.heap.size ≤ w.heap.size + 1; omega) v)
    obtain ⟨hc0, hc1⟩ := set2 w5 (w.heap.size + 1) (.int .i64 t) (.int .i64 b) c0 c1
    clear b5 b5' hW HO2 B2
    go_wp2
    refine bodyPost_ret (v := .tuple #[.agg #[.int .i64 t, .int .i64 b], .int .i64 cd, .bool true]) (by simp [results, Tryd.results19, go_sem, hc0, hc1]; try rfl) rfl ?_
    exact ⟨rfl, B5.out _ _⟩

end Go.Proofs.YtjpegbodhpnflaaDoor
