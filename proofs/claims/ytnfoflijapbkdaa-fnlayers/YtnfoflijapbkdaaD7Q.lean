/- What chapter 7 draws: an onion to be peeled. -/
import Derived.Test.YtnfoflijapbkdaaD7O
import Derived.Deep.RegionHeld3
import Derived.Deep.RegionWith
import Derived.Deep.Light
namespace Go.Proofs.Ytnfoflijapbkdaa
set_option linter.unusedVariables false
set_option maxRecDepth 1000000
set_option linter.unusedSimpArgs false
open Go.RowKit

/-- What two bytes that are unlike make is a byte. -/
def xorY (a t : Int) : UInt8 := UInt8.ofNat (bits .xor .u8 a t).toNat
theorem xorY_eq (a t : Int) : bits .xor .u8 a t = ((xorY a t).toNat : Int) := by
  have h : 0 ≤ bits .xor .u8 a t ∧ bits .xor .u8 a t < 256 := by
    show 0 ≤ IntKind.u8.wrap _ ∧ IntKind.u8.wrap _ < 256
    first | (rw [IntKind.wrap_u8]; omega) | (simp only [IntKind.wrap]; omega)
  unfold xorY
  rw [UInt8.toNat_ofNat']
  omega

set_option maxHeartbeats 4000000 in
theorem drawPeel_c (ao : Option Addr) (n c : Nat) (w : World) (hn : n ≤ 9223372036854775807) (h : CodeOk w w.heap.size ao n) :
    Calls Try.prog 19 #[.slice ao n c] w fun e w' => ∃ (k : Int) (s : ByteArray), e = .returned (.tuple #[.int .i64 k, .string s]) ∧ s.size ≤ 100 ∧ Below w.heap.size w w' := by
  have C0 : Hid (Cur (w.alloc (.cells #[.slice ao n c, .int .i64 0, .int .u64 0] 62)) w.heap.size ao n c 0) := cur_new _ hn h
  have G0 : Hid (GB w.heap.size w (w.alloc (.cells #[.slice ao n c, .int .i64 0, .int .u64 0] 62))) := (GB.refl _ _).alloc _
  have HZ0 : Hid (w.heap.size + 1 ≤ (w.alloc (.cells #[.slice ao n c, .int .i64 0, .int .u64 0] 62)).heap.size) := by show _ ≤ _; simp
  have HOld : Hid (Old ao n w.heap.size) := h.old
  clear h
  go_enter Try.func19, Try.ntmps19
  go_wp2_with fail
  refine (route_c w.heap.size ao n c 0 _ (by omega) (by omega) C0.out).mono ?_
  rintro e w1 ⟨a1, q1, c1, ks, a2, q2, c2, hs, rfl, h1, h2, h3, h4, hk, hh, ho1, ho2, hsep, hc1, hg1⟩
  have C1 : Hid (Cur w1 w.heap.size ao n c 100) := hc1.mono (by omega)
  have G1 : Hid (GB w.heap.size w w1) := G0.out.trans hg1
  have O1 : Hid (Own w1 (w.heap.size + 1) (.slice a1 q1 c1) ks) := ho1.mono HZ0.out
  have O2 : Hid (Own w1 (w.heap.size + 1) (.slice a2 q2 c2) hs) := ho2.mono HZ0.out
  have HK : Hid (ks.length = q1) := hk
  have HH : Hid (hs.length = q2) := hh
  clear hc1 hg1 C0 G0 ho1 ho2 hk hh hsep
  go_wp2_with fail
  refine (body_c w.heap.size ao n c 100 _ (by omega) C1.out).mono ?_
  rintro e w2 ⟨s, rfl, hs2, hc1, hg1⟩
  have C2 : Hid (Cur w2 w.heap.size ao n c 102) := hc1.mono (by omega)
  have G2 : Hid (GB w.heap.size w w2) := G1.out.trans hg1
  have P1 : Hid (Own w2 (w.heap.size + 1) (.slice a1 q1 c1) ks) := O1.out.kept hg1 (sep_own O1.out (by omega))
  have P2 : Hid (Own w2 (w.heap.size + 1) (.slice a2 q2 c2) hs) := O2.out.kept hg1 (sep_own O2.out (by omega))
  obtain ⟨t, fb, hF⟩ : ∃ t fb, buildF ks hs s = (t, fb) := ⟨_, _, rfl⟩
  obtain ⟨ht, ht2⟩ := buildF_size hF
  have HF : Hid (buildF ks hs s = (t, fb)) := hF
  clear hc1 hg1 C1 G1 O1 O2 hF
  go_wp2_with fail
  refine (specBuild_c a1 q1 c1 a2 q2 c2 s ks hs _ HK.out HH.out (by omega) (by omega) (by omega) P1.out.rd'.2 P2.out.rd'.2 t fb HF.out).mono ?_
  rintro e w3 ⟨rfl, hb⟩
  have C3 : Hid (Cur w3 w.heap.size ao n c 102) := C2.out.later hb
  have G3 : Hid (GB w.heap.size w w3) := G2.out.trans (GB.of_below hb (Nat.le_refl _))
  have Q1 : Hid (Own w3 (w.heap.size + 1) (.slice a1 q1 c1) ks) := P1.out.later hb
  clear hb C2 G2 P1 P2 HF
  obtain ⟨gg, hgg, hgb⟩ := own_some Q1.out (by omega)
  subst hgg
  cases fb
  · have C4 : Hid (Cur w3 w.heap.size ao n c 200) := C3.out.mono (by omega)
    clear C3 ht2
    go_wp2_with fail
    refine (one_c w.heap.size ao n c 200 8 _ (by omega) (by omega) C4.out).mono ?_
    rintro e wy ⟨zy, rfl, hc1, hg1⟩
    have Cy : Hid (Cur wy w.heap.size ao n c 202) := hc1
    have Gy : Hid (GB w.heap.size w wy) := G3.out.trans hg1
    have Qy : Hid (Own wy (w.heap.size + 1) (.slice (some ⟨gg, 0, none⟩) q1 c1) ks) := Q1.out.kept hg1 (sep_own Q1.out (by omega))
    clear hc1 hg1 C4 G3 Q1
    cases zy
    · have gc : wy.cell? ⟨gg, 0, none⟩ = some (.int .i64 (ks.getD 0 0)) := by
        have h := Qy.out
        rw [← HK.out] at h
        exact h.cell 0 (by rw [HK.out]; omega)
      generalize ks.getD 0 0 = y0 at gc
      go_wp2
      refine bodyPost_ret (v := .tuple #[.int .i64 y0, .string t]) (by simp [results, Try.results19, go_sem]; try rfl) rfl ?_
      exact ⟨y0, t, rfl, by omega, Gy.out.below (Nat.le_refl _) (Nat.le_refl _)⟩
    · go_wp2_with fail
      refine (key_c w.heap.size ao n c 202 _ (by omega) Cy.out).mono ?_
      rintro e wz ⟨kz, rfl, hc1, hg1⟩
      have Gz : Hid (GB w.heap.size w wz) := Gy.out.trans hg1
      clear hc1 hg1 Cy Gy Qy
      go_wp2
      refine bodyPost_ret (v := .tuple #[.int .i64 kz, .string t]) (by simp [results, Try.results19, go_sem]; try rfl) rfl ?_
      exact ⟨kz, t, rfl, by omega, Gz.out.below (Nat.le_refl _) (Nat.le_refl _)⟩
  · have h24 : t.size = 24 := ht2 rfl
    clear ht2
    go_wp2_with fail
    refine (one_c w.heap.size ao n c 102 4 _ (by omega) (by omega) C3.out).mono ?_
    rintro e w4 ⟨z4, rfl, hc1, hg1⟩
    have C4 : Hid (Cur w4 w.heap.size ao n c 104) := hc1
    have G4 : Hid (GB w.heap.size w w4) := G3.out.trans hg1
    have Q4 : Hid (Own w4 (w.heap.size + 1) (.slice (some ⟨gg, 0, none⟩) q1 c1) ks) := Q1.out.kept hg1 (sep_own Q1.out (by omega))
    clear hc1 hg1 C3 G3 Q1
    cases z4
    · have C5 : Hid (Cur w4 w.heap.size ao n c 200) := C4.out.mono (by omega)
      clear C4 h24
      go_wp2_with fail
      refine (one_c w.heap.size ao n c 200 8 _ (by omega) (by omega) C5.out).mono ?_
      rintro e wy ⟨zy, rfl, hc1, hg1⟩
      have Cy : Hid (Cur wy w.heap.size ao n c 202) := hc1
      have Gy : Hid (GB w.heap.size w wy) := G4.out.trans hg1
      have Qy : Hid (Own wy (w.heap.size + 1) (.slice (some ⟨gg, 0, none⟩) q1 c1) ks) := Q4.out.kept hg1 (sep_own Q4.out (by omega))
      clear hc1 hg1 C5 G4 Q4
      cases zy
      · have gc : wy.cell? ⟨gg, 0, none⟩ = some (.int .i64 (ks.getD 0 0)) := by
          have h := Qy.out
          rw [← HK.out] at h
          exact h.cell 0 (by rw [HK.out]; omega)
        generalize ks.getD 0 0 = y0 at gc
        go_wp2
        refine bodyPost_ret (v := .tuple #[.int .i64 y0, .string t]) (by simp [results, Try.results19, go_sem]; try rfl) rfl ?_
        exact ⟨y0, t, rfl, by omega, Gy.out.below (Nat.le_refl _) (Nat.le_refl _)⟩
      · go_wp2_with fail
        refine (key_c w.heap.size ao n c 202 _ (by omega) Cy.out).mono ?_
        rintro e wz ⟨kz, rfl, hc1, hg1⟩
        have Gz : Hid (GB w.heap.size w wz) := Gy.out.trans hg1
        clear hc1 hg1 Cy Gy Qy
        go_wp2
        refine bodyPost_ret (v := .tuple #[.int .i64 kz, .string t]) (by simp [results, Try.results19, go_sem]; try rfl) rfl ?_
        exact ⟨kz, t, rfl, by omega, Gz.out.below (Nat.le_refl _) (Nat.le_refl _)⟩
    · obtain ⟨cc, W, hcv, hcc, hrow, hbel, hsz⟩ := bytes_new t w4
      rw [h24] at hcv
      have hl24 : (bl t).length = 24 := by rw [bl_length, h24]
      have C5 : Hid (Cur W.drew w.heap.size ao n c 104) := (C4.out.later hbel).later (Below.refl _ _).drew
      have G5 : Hid (GB w.heap.size w W.drew) := (G4.out.trans (GB.of_below hbel (Nat.le_refl _))).drew
      have Q5 : Hid (Own W.drew (w.heap.size + 1) (.slice (some ⟨gg, 0, none⟩) q1 c1) ks) := (Q4.out.later hbel).later (Below.refl _ _).drew
      have R5 : Hid (RowB W.drew w4.heap.size (bl t)) := hrow.later (Below.refl _ _).drew
      have hw4 : w.heap.size < w4.heap.size := C4.out.lt
      have HQL : Hid (∀ k', (Value.slice (some ⟨gg, 0, none⟩) q1 c1).ownBlock = some k' → k' < w4.heap.size) := fun k' hk' => (World.ownsRow.lt Q4.out k' hk').2
      obtain ⟨l, hl⟩ : ∃ l, bl t = l := ⟨_, rfl⟩
      rw [hl] at R5 hl24
      have HL : Hid (l.length = 24) := hl24
      have hxy : ∀ a b : Int, bits .xor .u8 a b = ((xorY a b).toNat : Int) := xorY_eq
      clear hl hl24 hrow hbel hsz C4 G4 Q4 h24 hcc
      go_wp2_with fail
      have tok1 : True := trivial
      go_region_with (first | (go_at_call 61; have _t := tok1; refine (pick_c w.heap.size ao n c 104 24 _ (by omega) (by omega) C5.out).mono ?_; rintro e wp ⟨x, rfl, hx0, hx1, hc1, hg1⟩; obtain ⟨X, rfl⟩ : ∃ X : Nat, x = X := ⟨x.toNat, by omega⟩; have Cp : Hid (Cur wp w.heap.size ao n c 106) := hc1; have Gp : Hid (GB w.heap.size w wp) := G5.out.trans hg1; have Qp : Hid (Own wp (w.heap.size + 1) (.slice (some ⟨gg, 0, none⟩) q1 c1) ks) := Q5.out.kept hg1 (sep_own Q5.out (by omega)); have Rp : Hid (RowB wp w4.heap.size l) := R5.out.kept hg1 (by omega); have p1 := Rp.out.1 X (by rw [HL.out]; omega); have p2 := Rp.out.2 X (by rw [HL.out]; omega); clear hc1 hg1 tok1 _t) | (go_at_call 61; refine (pick_c w.heap.size ao n c 106 8 _ (by omega) (by omega) Cp.out).mono ?_; rintro e wq ⟨x2, rfl, hy0, hy1, hc1, hg1⟩; obtain ⟨X2, rfl⟩ : ∃ X : Nat, x2 = X := ⟨x2.toNat, by omega⟩; have Cq : Hid (Cur wq w.heap.size ao n c 108) := hc1; have Gq : Hid (GB w.heap.size w wq) := Gp.out.trans hg1; have Qq : Hid (Own wq (w.heap.size + 1) (.slice (some ⟨gg, 0, none⟩) q1 c1) ks) := Qp.out.kept hg1 (sep_own Qp.out (by omega)); have Rq : Hid (RowB wq w4.heap.size l) := Rp.out.kept hg1 (by omega); have r1 := Rq.out.1 X (by rw [HL.out]; omega); have r2 := Rq.out.2 X (by rw [HL.out]; omega); clear hc1 hg1))
      all_goals
        generalize xorY ((bN l X : Nat) : Int) (IntKind.u8.wrap (2 ^ min (IntKind.u64.wrap (X2 : Int)).toNat 8)) = Y
        have hset := Rq.out.set (k := X) (by rw [HL.out]; omega) Y
        have hgr := grown_setCell wq w4.heap.size X (.int .u8 (Y.toNat : Int))
        have C6 : Hid (Cur (wq.setCell ⟨w4.heap.size, X, none⟩ (.int .u8 (Y.toNat : Int))) w.heap.size ao n c 200) := (Cq.out.grown (B := w4.heap.size) hgr (fun k' e => by simp at e; omega) hw4 (old_mono HOld.out (by omega))).mono (by omega)
        have G6 : Hid (GB w.heap.size w (wq.setCell ⟨w4.heap.size, X, none⟩ (.int .u8 (Y.toNat : Int)))) := Gq.out.grown hgr (fun k' e => by simp at e; omega)
        have Q6 : Hid (Own (wq.setCell ⟨w4.heap.size, X, none⟩ (.int .u8 (Y.toNat : Int))) (w.heap.size + 1) (.slice (some ⟨gg, 0, none⟩) q1 c1) ks) := Qq.out.kept hgr (Or.inr (fun e => by have := HQL.out _ e; omega))
        have hcv2 := hset.text 24 cc (by rw [List.length_set, HL.out])
        obtain ⟨t2, ht2⟩ : ∃ t2, tx (l.set X Y) = t2 := ⟨_, rfl⟩
        rw [ht2] at hcv2
        have hz2 : t2.size ≤ 24 := by rw [← ht2, tx_size, List.length_set, HL.out]; omega
        clear hset hgr ht2 Cp Gp Qp Rp p1 p2 Cq Gq Qq Rq r1 r2 C5 G5 Q5 R5 hxy hcv
        go_wp2_with fail
        refine (one_c w.heap.size ao n c 200 8 _ (by omega) (by omega) C6.out).mono ?_
        rintro e wy ⟨zy, rfl, hc1, hg1⟩
        have Cy : Hid (Cur wy w.heap.size ao n c 202) := hc1
        have Gy : Hid (GB w.heap.size w wy) := G6.out.trans hg1
        have Qy : Hid (Own wy (w.heap.size + 1) (.slice (some ⟨gg, 0, none⟩) q1 c1) ks) := Q6.out.kept hg1 (sep_own Q6.out (by omega))
        clear hc1 hg1 C6 G6 Q6
        cases zy
        · have gc : wy.cell? ⟨gg, 0, none⟩ = some (.int .i64 (ks.getD 0 0)) := by
            have h := Qy.out
            rw [← HK.out] at h
            exact h.cell 0 (by rw [HK.out]; omega)
          generalize ks.getD 0 0 = y0 at gc
          go_wp2
          refine bodyPost_ret (v := .tuple #[.int .i64 y0, .string t2]) (by simp [results, Try.results19, go_sem]; try rfl) rfl ?_
          exact ⟨y0, t2, rfl, by omega, Gy.out.below (Nat.le_refl _) (Nat.le_refl _)⟩
        · go_wp2_with fail
          refine (key_c w.heap.size ao n c 202 _ (by omega) Cy.out).mono ?_
          rintro e wz ⟨kz, rfl, hc1, hg1⟩
          have Gz : Hid (GB w.heap.size w wz) := Gy.out.trans hg1
          clear hc1 hg1 Cy Gy Qy
          go_wp2
          refine bodyPost_ret (v := .tuple #[.int .i64 kz, .string t2]) (by simp [results, Try.results19, go_sem]; try rfl) rfl ?_
          exact ⟨kz, t2, rfl, by omega, Gz.out.below (Nat.le_refl _) (Nat.le_refl _)⟩

end Go.Proofs.Ytnfoflijapbkdaa
