/- Chapter 16: JoinWindows of the program. -/
import Derived.Test.YtjpegbodhpnflaaDoorJC16
namespace Go.Proofs.YtjpegbodhpnflaaDoor
set_option linter.unusedVariables false
set_option maxRecDepth 1000000
set_option linter.unusedSimpArgs false
open Go.RowKit

def joinOk (t x u y : Int) : Bool := goodWn t x && goodWn u y
def joinT (t x u y : Int) : Int × Int := if joinOk t x u y = true then (max t u, ((WB 16 (max t u) (joinL (RL 16 x.toNat t) (RL 16 y.toNat u)) : Nat) : Int)) else (0, 0)

theorem goodW_le {t : Int} {b : Nat} (h : GoodW t b) {x : Int} (hx : x ∈ RL 16 b t) : x ≤ t := (goodW_pos h hx).2
theorem goodW_self {t : Int} {b : Nat} (h : GoodW t b) (h0 : 0 < t) : t ∈ RL 16 b t := by
  have h2 : b % 2 = 1 := h.2.2.2.1.2 h0
  rw [RL, if_pos h2]; simp
theorem join_top {t u : Int} {b d : Nat} (h1 : GoodW t b) (h2 : GoodW u d) : topL (joinL (RL 16 b t) (RL 16 d u)) = max t u := by
  obtain ⟨hr, hm⟩ := joinL_facts (RL 16 b t) (RL 16 d u)
  by_cases h0 : 0 < max t u
  · refine topL_of hr ?_ ?_
    · rw [hm]
      by_cases c : u ≤ t
      · left
        rw [show max t u = t by omega]
        exact goodW_self h1 (by omega)
      · right
        rw [show max t u = u by omega]
        exact goodW_self h2 (by omega)
    · intro x hx
      rcases (hm x).1 hx with e | e
      · have := goodW_le h1 e; omega
      · have := goodW_le h2 e; omega
  · have := h1.1
    have := h2.1
    have e : joinL (RL 16 b t) (RL 16 d u) = [] := by
      rcases hl : joinL (RL 16 b t) (RL 16 d u) with _ | ⟨x, r⟩
      · rfl
      · exfalso
        have hx : x ∈ joinL (RL 16 b t) (RL 16 d u) := by rw [hl]; simp
        rcases (hm x).1 hx with e | e
        · have := goodW_pos h1 e; omega
        · have := goodW_pos h2 e; omega
    rw [e, topL_nil]; omega

theorem takeJD16 {P : Program} {ops : Array Oper} {Q : Exit → Act → World → Prop} {md : Region.Mode} {S : World → Prop} {i : Nat} {oi : Oper} {v : Value} {d : Option Tmp} {fuel : Nat} {listed : Array Bool} {a : Act} {w : World} (hi : ops[i]? = some oi) (hd : oi.dst = d)
    (hs : Region.noSelect ops = true) (hf : Region.free md ops listed i = true) (hr : (Region.ready md ops listed).contains i = true)
    (hQ : ∀ c a w, Q (.panic c) (a.put d v) w → Q (.panic c) a w) (hy : YieldsIf P ops S oi v a) (hS : S w)
    (h : wpAnyH P md ops Q S fuel (listed.setIfInBounds i true) (a.put d v) w) : wpAnyH P md ops Q S (fuel + 1) listed a w := by
  subst hd
  exact wpAnyH_take hi hs hf hr hQ hy hS h

theorem own_none {w : World} {base n c : Nat} {ao : Option Addr} {xs : List Int} (h : Own w base (.slice ao n c) xs) : ao = none → n = 0 ∧ c = 0 := fun e => by
  rcases h.form with ⟨h, h2⟩ | ⟨g, cap, h, _⟩
  · injection h with h3 h4 h5
    exact ⟨h4, h5⟩
  · rw [e] at h; cases h

set_option maxHeartbeats 4000000 in
theorem implJoin_c (t x u y : Int) (w : World) (ht : Tb w) (hx64 : -9223372036854775808 ≤ x ∧ x ≤ 9223372036854775807) (hy64 : -9223372036854775808 ≤ y ∧ y ≤ 9223372036854775807) :
    Calls Tryd.prog 23 #[.agg #[.int .i64 t, .int .i64 x], .agg #[.int .i64 u, .int .i64 y]] w fun e w' => e = .returned (.tuple #[.agg #[.int .i64 (joinT t x u y).1, .int .i64 (joinT t x u y).2], .bool (joinOk t x u y)]) ∧ Below w.heap.size w w' := by
  obtain ⟨W, hW⟩ : ∃ X, ((w.alloc (.cells #[.int .i64 t, .int .i64 x] 26)).alloc (.cells #[.int .i64 u, .int .i64 y] 26)).alloc (.cells #[.int .i64 0, .int .i64 0] 26) = X := ⟨_, rfl⟩
  have hsz : W.heap.size = w.heap.size + 3 := by rw [← hW]; simp
  have HB0 : Hid (Below w.heap.size w W) := by rw [← hW]; exact (((Below.refl _ _).alloc (Nat.le_refl _) _).alloc (by simp) _).alloc (by simp; omega) _
  have FA0 : FX W w.heap.size (.int .i64 t) (.int .i64 x) := by
    rw [← hW]; exact ((fx_new w _ _ _).later (balloc _ _)).later (balloc _ _)
  have FB0 : FX W (w.heap.size + 1) (.int .i64 u) (.int .i64 y) := by
    have h := (fx_new (w.alloc (.cells #[.int .i64 t, .int .i64 x] 26)) (.int .i64 u) (.int .i64 y) 26).later (balloc _ (.cells #[.int .i64 0, .int .i64 0] 26))
    rw [show (w.alloc (.cells #[.int .i64 t, .int .i64 x] 26)).heap.size = w.heap.size + 1 by simp] at h
    rw [← hW]; exact h
  have FC0 : FX W (w.heap.size + 2) (.int .i64 0) (.int .i64 0) := by
    have h := fx_new ((w.alloc (.cells #[.int .i64 t, .int .i64 x] 26)).alloc (.cells #[.int .i64 u, .int .i64 y] 26)) (.int .i64 0) (.int .i64 0) 26
    rw [show ((w.alloc (.cells #[.int .i64 t, .int .i64 x] 26)).alloc (.cells #[.int .i64 u, .int .i64 y] 26)).heap.size = w.heap.size + 2 by simp] at h
    rw [← hW]; exact h
  have q1 := fun wx (h : Below W.heap.size W wx) => goodWindow_c t x wx (ht.later (HB0.out.trans (h.mono HB0.out.size))) hx64
  have q2 := fun wx (h : Below W.heap.size W wx) => goodWindow_c u y wx (ht.later (HB0.out.trans (h.mono HB0.out.size))) hy64
  cases hg : goodWn t x
  · have hk : joinOk t x u y = false := by unfold joinOk; rw [hg]; rfl
    have hj : joinT t x u y = (0, 0) := by unfold joinT; rw [hk, if_neg (by decide)]
    rw [hj, hk]
    rw [hg] at q1
    obtain ⟨_, a0, a1, _, _⟩ := id FA0
    clear hg hk hj FB0
    go_enter Tryd.func23, Tryd.ntmps23
    go_wp2_with fail
    refine (q1 _ (Below.refl _ _)).mono ?_
    clear q1 a0 a1
    rintro e w1 ⟨rfl, b1⟩
    obtain ⟨_, c0, c1, f0, f1⟩ := FC0.later b1
    have B9 : Hid (∀ p q, Below w.heap.size w ((w1.setCell ⟨w.heap.size + 2, 0, none⟩ p).setCell ⟨w.heap.size + 2, 1, none⟩ q)) := fun p q => ((HB0.out.trans (b1.mono HB0.out.size)).setCell (p := ⟨w.heap.size + 2, 0, none⟩) (by show w.heap.size ≤ w.heap.size + 2; omega) p).setCell (p := ⟨w.heap.size + 2, 1, none⟩) (by show w.heap.size ≤ w.heap.size + 2; omega) q
    obtain ⟨hc0, hc1⟩ := set2 w1 (w.heap.size + 2) (.int .i64 0) (.int .i64 0) c0 c1
    clear b1 hW
    go_wp2
    refine bodyPost_ret (v := .tuple #[.agg #[.int .i64 0, .int .i64 0], .bool false]) (by simp [results, Tryd.results23, go_sem, hc0, hc1]; try rfl) rfl ?_
    exact ⟨rfl, B9.out _ _⟩
  cases hh : goodWn u y
  · have hk : joinOk t x u y = false := by unfold joinOk; rw [hg, hh]; rfl
    have hj : joinT t x u y = (0, 0) := by unfold joinT; rw [hk, if_neg (by decide)]
    rw [hj, hk]
    rw [hg] at q1
    rw [hh] at q2
    obtain ⟨_, a0, a1, _, _⟩ := id FA0
    clear hg hh hk hj
    go_enter Tryd.func23, Tryd.ntmps23
    go_wp2_with fail
    refine (q1 _ (Below.refl _ _)).mono ?_
    clear q1 a0 a1
    rintro e w1 ⟨rfl, b1⟩
    obtain ⟨_, a0, a1, _, _⟩ := FB0.later b1
    have FC1 := FC0.later b1
    have B1 := HB0.out.trans (b1.mono HB0.out.size)
    have q2' := q2 w1 b1
    clear b1
    go_wp2_with fail
    refine q2'.mono ?_
    clear q2' q2 a0 a1
    rintro e w2 ⟨rfl, b2⟩
    obtain ⟨_, c0, c1, f0, f1⟩ := FC1.later b2
    have B9 : Hid (∀ p q, Below w.heap.size w ((w2.setCell ⟨w.heap.size + 2, 0, none⟩ p).setCell ⟨w.heap.size + 2, 1, none⟩ q)) := fun p q => ((B1.trans (b2.mono B1.size)).setCell (p := ⟨w.heap.size + 2, 0, none⟩) (by show w.heap.size ≤ w.heap.size + 2; omega) p).setCell (p := ⟨w.heap.size + 2, 1, none⟩) (by show w.heap.size ≤ w.heap.size + 2; omega) q
    obtain ⟨hc0, hc1⟩ := set2 w2 (w.heap.size + 2) (.int .i64 0) (.int .i64 0) c0 c1
    clear b2 hW
    go_wp2
    refine bodyPost_ret (v := .tuple #[.agg #[.int .i64 0, .int .i64 0], .bool false]) (by simp [results, Tryd.results23, go_sem, hc0, hc1]; try rfl) rfl ?_
    exact ⟨rfl, B9.out _ _⟩
  have hk : joinOk t x u y = true := by unfold joinOk; rw [hg, hh]; rfl
  obtain ⟨_, hG⟩ := goodWn_of hg
  obtain ⟨_, hH⟩ := goodWn_of hh
  obtain ⟨b, rfl⟩ : ∃ b : Nat, x = b := ⟨x.toNat, by omega⟩
  obtain ⟨d, rfl⟩ : ∃ d : Nat, y = d := ⟨y.toNat, by omega⟩
  rw [Int.toNat_natCast] at hG hH
  have hj : joinT t b u d = (max t u, ((WB 16 (max t u) (joinL (RL 16 b t) (RL 16 d u)) : Nat) : Int)) := by
    unfold joinT
    rw [hk, if_pos rfl, Int.toNat_natCast, Int.toNat_natCast]
  rw [hj, hk]
  rw [hg] at q1
  rw [hh] at q2
  clear hj hk hg hh
  have HN1 : Hid (∀ wx, Below w.heap.size w wx → Calls Tryd.prog 45 #[.agg #[.int .i64 t, .int .i64 b]] wx fun e w' => ∃ ao c, e = .returned (.slice ao (RL 16 b t).length c) ∧ Own w' wx.heap.size (.slice ao (RL 16 b t).length c) (RL 16 b t) ∧ Below wx.heap.size wx w') := fun wx h => by
    have h2 := numbersSeen_c t b wx hG.2.2.1 (ht.later h)
    rw [seen_good hG] at h2
    exact h2
  have HN2 : Hid (∀ wx, Below w.heap.size w wx → Calls Tryd.prog 45 #[.agg #[.int .i64 u, .int .i64 d]] wx fun e w' => ∃ ao c, e = .returned (.slice ao (RL 16 d u).length c) ∧ Own w' wx.heap.size (.slice ao (RL 16 d u).length c) (RL 16 d u) ∧ Below wx.heap.size wx w') := fun wx h => by
    have h2 := numbersSeen_c u d wx hH.2.2.1 (ht.later h)
    rw [seen_good hH] at h2
    exact h2
  have htop := join_top hG hH
  have hm0 := hG.1
  have hm1 := hG.2.1
  have hm2 := hH.1
  have hm3 := hH.2.1
  have hl1 := RL_len 16 b t
  have hl2 := RL_len 16 d u
  have hlJ := joinL_len (RL 16 b t) (RL 16 d u)
  have HJ : Hid (∀ wx aa ac ba bc, Rd wx aa (RL 16 b t) → Rd wx ba (RL 16 d u) → (aa = none → (RL 16 b t).length = 0 ∧ ac = 0) → (ba = none → (RL 16 d u).length = 0 ∧ bc = 0) → Calls Tryd.prog 52 #[.slice aa (RL 16 b t).length ac, .slice ba (RL 16 d u).length bc] wx fun e w' => ∃ ao c, e = .returned (.slice ao (joinL (RL 16 b t) (RL 16 d u)).length c) ∧ Own w' wx.heap.size (.slice ao (joinL (RL 16 b t) (RL 16 d u)).length c) (joinL (RL 16 b t) (RL 16 d u)) ∧ Below wx.heap.size wx w') := fun wx aa ac ba bc h1 h2 h3 h4 => joined_c aa ba ac bc _ _ wx hl1 hl2 h1 h2 h3 h4
  have HWd : Hid (∀ wx ao c, Rd wx ao (joinL (RL 16 b t) (RL 16 d u)) → Calls Tryd.prog 49 #[.slice ao (joinL (RL 16 b t) (RL 16 d u)).length c] wx fun e w' => e = .returned (.agg #[.int .i64 (max t u), .int .i64 (WB 16 (max t u) (joinL (RL 16 b t) (RL 16 d u)) : Nat)]) ∧ Below wx.heap.size wx w') := fun wx ao c h => by
    have h2 := windowOf_c ao _ c (joinL (RL 16 b t) (RL 16 d u)) wx rfl (by omega) h (joinL_facts _ _).1 (by rw [htop]; omega)
    rw [htop] at h2
    exact h2
  show Calls _ _ _ _ fun e w' => e = .returned (.tuple #[.agg #[.int .i64 (max t u), .int .i64 (WB 16 (max t u) (joinL (RL 16 b t) (RL 16 d u)) : Nat)], .bool true]) ∧ _
  generalize WB 16 (max t u) (joinL (RL 16 b t) (RL 16 d u)) = R at HWd ⊢
  generalize max t u = T at HWd htop ⊢
  generalize joinL (RL 16 b t) (RL 16 d u) = J at HJ HWd htop hlJ
  generalize RL 16 b t = xs at HN1 HJ hl1 hlJ
  generalize RL 16 d u = ys at HN2 HJ hl2 hlJ
  clear htop hG hH hlJ hm0 hm1 hm2 hm3 ht
  obtain ⟨_, a0, a1, _, _⟩ := id FA0
  go_enter Tryd.func23, Tryd.ntmps23
  go_wp2_with fail
  refine (q1 _ (Below.refl _ _)).mono ?_
  clear q1 a0 a1
  rintro e w1 ⟨rfl, b1⟩
  have FA1 := FA0.later b1
  have FB1 := FB0.later b1
  have FC1 := FC0.later b1
  have B1 := HB0.out.trans (b1.mono HB0.out.size)
  have q2' := q2 w1 b1
  obtain ⟨_, a0, a1, _, _⟩ := id FB1
  clear b1 FA0 FB0 FC0 q2 hW
  go_wp2_with fail
  refine q2'.mono ?_
  clear q2' a0 a1
  rintro e w2 ⟨rfl, b2⟩
  have FA2 := FA1.later b2
  have FB2 := FB1.later b2
  have FC2 := FC1.later b2
  have B2 := B1.trans (b2.mono B1.size)
  obtain ⟨D0, hD0⟩ : ∃ D, w2.drew = D := ⟨_, rfl⟩
  have FAd : Hid (FX D0 w.heap.size (.int .i64 t) (.int .i64 b)) := by rw [← hD0]; exact FA2
  have FBd : Hid (FX D0 (w.heap.size + 1) (.int .i64 u) (.int .i64 d)) := by rw [← hD0]; exact FB2
  have FCd : Hid (FX D0 (w.heap.size + 2) (.int .i64 0) (.int .i64 0)) := by rw [← hD0]; exact FC2
  have BD : Hid (Below w.heap.size w D0) := by rw [← hD0]; exact B2.drew
  obtain ⟨_, a0, a1, _, _⟩ := id FA2
  obtain ⟨_, b0, b1, _, _⟩ := id FB2
  clear b2 FA1 FB1 FC1 B1 FA2 FB2 FC2 B2
  go_wp2
  refine wp_region_held_drew (S := (fun X => (X.cell? ⟨w.heap.size, 0, none⟩ = some (.int .i64 t) ∧ X.cell? ⟨w.heap.size, 1, none⟩ = some (.int .i64 b)) ∧ X.cell? ⟨w.heap.size + 1, 0, none⟩ = some (.int .i64 u) ∧ X.cell? ⟨w.heap.size + 1, 1, none⟩ = some (.int .i64 d))) (by kernel_rfl) ?_ (fun hHeld => ?_)
  · exact ⟨⟨a0, a1⟩, b0, b1⟩
  rw [hD0] at hHeld ⊢
  clear hD0 a0 a1 b0 b1
  refine takeJD16 (i := 0) (oi := _) (v := ?_) (d := some 15) rfl (by kernel_rfl) (by kernel_rfl) (by kernel_rfl) (by kernel_rfl) (fun _ _ _ h => h) (Or.inl ⟨by rfl, ?_⟩) (by assumption) ?_
  rotate_left
  · (intro w hSw; (try dsimp only at hSw); go_simp <;> with_reducible rfl)
  try simp only [Act.put, List.setIfInBounds_toArray, List.set_cons_zero, List.set_cons_succ]
  refine takeJD16 (i := 2) (oi := _) (v := ?_) (d := some 17) rfl (by kernel_rfl) (by kernel_rfl) (by kernel_rfl) (by kernel_rfl) (fun _ _ _ h => h) (Or.inl ⟨by rfl, ?_⟩) (by assumption) ?_
  rotate_left
  · (intro w hSw; (try dsimp only at hSw); go_simp <;> with_reducible rfl)
  try simp only [Act.put, List.setIfInBounds_toArray, List.set_cons_zero, List.set_cons_succ]
  refine wpAnyH_ready (rs := [1]) (by kernel_rfl) (by simp) ?_
  refine AllReadyH.cons (o := _) rfl (fun K hK => ?_) AllReadyH.nil
  go_simp
  refine (HN1.out _ BD.out).mono ?_
  rintro e V1 ⟨ao1, k1, rfl, ho, hb⟩
  have FA1 : Hid (FX V1 w.heap.size (.int .i64 t) (.int .i64 b)) := FAd.out.later hb
  have FB1 : Hid (FX V1 (w.heap.size + 1) (.int .i64 u) (.int .i64 d)) := FBd.out.later hb
  have FC1 : Hid (FX V1 (w.heap.size + 2) (.int .i64 0) (.int .i64 0)) := FCd.out.later hb
  have B1 : Hid (Below w.heap.size w V1) := BD.out.trans (hb.mono BD.out.size)
  have O1 : Hid (Own V1 D0.heap.size (.slice ao1 xs.length k1) xs) := ho
  clear ho hb FAd FBd FCd
  refine hK.out _ _ ?_ (fun hHeld => ?_)
  · exact ⟨⟨FA1.out.2.1, FA1.out.2.2.1⟩, FB1.out.2.1, FB1.out.2.2.1⟩
  clear hK K
  try simp only [Act.put, List.setIfInBounds_toArray, List.set_cons_zero, List.set_cons_succ]
  refine wpAnyH_ready (rs := [3]) (by kernel_rfl) (by simp) ?_
  refine AllReadyH.cons (o := _) rfl (fun K hK => ?_) AllReadyH.nil
  go_simp
  refine (HN2.out _ B1.out).mono ?_
  rintro e V2 ⟨ao2, k2, rfl, ho, hb⟩
  have FA2 : Hid (FX V2 w.heap.size (.int .i64 t) (.int .i64 b)) := FA1.out.later hb
  have FB2 : Hid (FX V2 (w.heap.size + 1) (.int .i64 u) (.int .i64 d)) := FB1.out.later hb
  have FC2 : Hid (FX V2 (w.heap.size + 2) (.int .i64 0) (.int .i64 0)) := FC1.out.later hb
  have B2 : Hid (Below w.heap.size w V2) := B1.out.trans (hb.mono B1.out.size)
  have O12 : Hid (Own V2 D0.heap.size (.slice ao1 xs.length k1) xs) := O1.out.later hb
  have O2 : Hid (Own V2 V1.heap.size (.slice ao2 ys.length k2) ys) := ho
  clear ho hb FA1 FB1 FC1 O1
  refine hK.out _ _ ?_ (fun hHeld => ?_)
  · exact ⟨⟨FA2.out.2.1, FA2.out.2.2.1⟩, FB2.out.2.1, FB2.out.2.2.1⟩
  clear hK K
  try simp only [Act.put, List.setIfInBounds_toArray, List.set_cons_zero, List.set_cons_succ]
  refine wpAnyH_ready (rs := [4]) (by kernel_rfl) (by simp) ?_
  refine AllReadyH.cons (o := _) rfl (fun K hK => ?_) AllReadyH.nil
  go_simp
  refine (HJ.out _ _ _ _ _ O12.out.rd'.2 O2.out.rd'.2 (own_none O12.out) (own_none O2.out)).mono ?_
  rintro e V3 ⟨ao3, k3, rfl, ho, hb⟩
  have FA3 : Hid (FX V3 w.heap.size (.int .i64 t) (.int .i64 b)) := FA2.out.later hb
  have FB3 : Hid (FX V3 (w.heap.size + 1) (.int .i64 u) (.int .i64 d)) := FB2.out.later hb
  have FC3 : Hid (FX V3 (w.heap.size + 2) (.int .i64 0) (.int .i64 0)) := FC2.out.later hb
  have B3 : Hid (Below w.heap.size w V3) := B2.out.trans (hb.mono B2.out.size)
  have O3 : Hid (Own V3 V2.heap.size (.slice ao3 J.length k3) J) := ho
  clear ho hb FA2 FB2 FC2 O12 O2
  refine hK.out _ _ ?_ (fun hHeld => ?_)
  · exact ⟨⟨FA3.out.2.1, FA3.out.2.2.1⟩, FB3.out.2.1, FB3.out.2.2.1⟩
  clear hK K
  try simp only [Act.put, List.setIfInBounds_toArray, List.set_cons_zero, List.set_cons_succ]
  refine wpAnyH_ready (rs := [5]) (by kernel_rfl) (by simp) ?_
  refine AllReadyH.cons (o := _) rfl (fun K hK => ?_) AllReadyH.nil
  go_simp
  refine (HWd.out _ _ _ O3.out.rd'.2).mono ?_
  rintro e V4 ⟨rfl, hb⟩
  have FA4 : Hid (FX V4 w.heap.size (.int .i64 t) (.int .i64 b)) := FA3.out.later hb
  have FB4 : Hid (FX V4 (w.heap.size + 1) (.int .i64 u) (.int .i64 d)) := FB3.out.later hb
  have FC4 : Hid (FX V4 (w.heap.size + 2) (.int .i64 0) (.int .i64 0)) := FC3.out.later hb
  have B4 : Hid (Below w.heap.size w V4) := B3.out.trans (hb.mono B3.out.size)
  clear hb FA3 FB3 FC3 O3
  refine hK.out _ _ ?_ (fun hHeld => ?_)
  · exact ⟨⟨FA4.out.2.1, FA4.out.2.2.1⟩, FB4.out.2.1, FB4.out.2.2.1⟩
  clear hK K
  try simp only [Act.put, List.setIfInBounds_toArray, List.set_cons_zero, List.set_cons_succ]
  obtain ⟨_, c0, c1, f0, f1⟩ := id FC4.out
  obtain ⟨V5, hV5⟩ : ∃ X, (V4.setCell ⟨w.heap.size + 2, 0, none⟩ (.int .i64 T)).setCell ⟨w.heap.size + 2, 1, none⟩ (.int .i64 R) = X := ⟨_, rfl⟩
  refine wpAnyH_ready (rs := [6]) (by kernel_rfl) (by simp) ?_
  refine AllReadyH.cons (o := _) rfl (fun K hK => ?_) AllReadyH.nil
  go_simp
  refine hK.out _ _ ?_ (fun hHeld => ?_)
  · rw [← hV5]; exact ⟨⟨(FA4.out.other (by omega) _ _).2.1, (FA4.out.other (by omega) _ _).2.2.1⟩, (FB4.out.other (by omega) _ _).2.1, (FB4.out.other (by omega) _ _).2.2.1⟩
  clear hK K
  try simp only [Act.put, List.setIfInBounds_toArray, List.set_cons_zero, List.set_cons_succ]
  refine takeJD16 (i := 7) (oi := _) (v := ?_) (d := some 5) rfl (by kernel_rfl) (by kernel_rfl) (by kernel_rfl) (by kernel_rfl) (fun _ _ _ h => h) (Or.inl ⟨by rfl, ?_⟩) (by assumption) ?_
  rotate_left
  · (intro w hSw; (try dsimp only at hSw); go_simp <;> with_reducible rfl)
  try simp only [Act.put, List.setIfInBounds_toArray, List.set_cons_zero, List.set_cons_succ]
  refine wpAnyH_done (by kernel_rfl) ?_ _
  clear hHeld
  have FC5 : FX V5 (w.heap.size + 2) (.int .i64 T) (.int .i64 R) := by rw [← hV5]; exact FC4.out.set _ _
  have B5 : Hid (Below w.heap.size w V5) := by rw [← hV5]; exact (B4.out.setCell (p := ⟨w.heap.size + 2, 0, none⟩) (by show w.heap.size ≤ w.heap.size + 2; omega) _).setCell (p := ⟨w.heap.size + 2, 1, none⟩) (by show w.heap.size ≤ w.heap.size + 2; omega) _
  try rw [hV5]
  clear hV5 c0 c1 f0 f1
  obtain ⟨_, c0, c1, _, _⟩ := FC5
  go_wp2
  refine bodyPost_ret (v := .tuple #[.agg #[.int .i64 T, .int .i64 R], .bool true]) (by simp [results, Tryd.results23, go_sem, c0, c1]; try rfl) rfl ?_
  exact ⟨rfl, B5.out⟩

end Go.Proofs.YtjpegbodhpnflaaDoor
