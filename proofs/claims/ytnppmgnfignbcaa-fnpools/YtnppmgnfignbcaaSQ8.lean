/- Chapter 8, the specification: a text put into a mix where there is no room, or where there is. -/
import Derived.Test.YtnppmgnfignbcaaSP8
namespace Go.Proofs.Ytnppmgnfignbcaa
set_option linter.unusedVariables false
set_option maxRecDepth 1000000
set_option linter.unusedSimpArgs false
open Go.RowKit

set_option maxHeartbeats 2000000 in
theorem l8Put_two (B : Nat) (p s : Option Addr) (n c m d : Nat) (z : MixV) (t : ByteArray) (w : World) (hpl : z.pool.length = n) (hsl : z.seen.length = m) (hn : n ≤ 1000) (hm : m ≤ 1000) (hB : B ≤ w.heap.size) (ho : MixOwn w B p c s d z) (ht : t.size ≤ 9223372036854775807) (h1 : tagN t ∉ z.seen) (h2 : n = 12 ∨ m = 100) :
    Calls Try.prog 59 #[.agg #[.slice p n c, .int .i64 z.least, .int .i64 z.wait, .int .i64 z.old, .slice s m d], .string t] w fun e w' => PutV w' B e z 2 ∧ Below w.heap.size w w' := by
  obtain ⟨xs, za, zb, zt, ys⟩ := z
  obtain ⟨W0, hW0, hC0, hD0, hB0, hS0⟩ := two_boxes w (.slice p n c) za zb zt (.slice s m d) 41
  have HB0 : Hid (Below w.heap.size w W0) := hB0
  have HLT : Hid ((∀ k, (Value.slice p n c).ownBlock = some k → k < w.heap.size) ∧ ∀ k, (Value.slice s m d).ownBlock = some k → k < w.heap.size) := by
    have h := ho.lt
    have e1 : xs.length = n := hpl
    have e2 : ys.length = m := hsl
    simp only [e1, e2] at h
    exact ⟨fun k e => (h.1 k e).2, fun k e => (h.2 k e).2⟩
  have HO : Hid (MixOwn w B p c s d ⟨xs, za, zb, zt, ys⟩) := ho
  have HPL : Hid (xs.length = n) := hpl
  have HSL : Hid (ys.length = m) := hsl
  have HQ1 : Hid (∀ wx, Calls Try.prog 83 #[.string t] wx fun e w' => e = .returned (.int .i64 (tagN t)) ∧ w' = wx) := fun wx => l8Tag_c t wx ht
  have HQ2 : Hid (∀ k, Calls Try.prog 84 #[.slice s m d, .int .i64 (tagN t)] (W0.drewN k) fun e w' => e = .returned (.bool false) ∧ w' = W0.drewN k) := fun k => by
    have h := l1Has_c s m d (tagN t) ys (W0.drewN k) hsl (by omega) ((ho.rd.rs.later hB0).later (below_drewN (Below.refl _ _) k))
    rw [decide_eq_false h1] at h; exact h
  generalize tagN t = g at HQ1 HQ2
  obtain ⟨⟨c0, c1, c2, c3, c4⟩, f⟩ := hC0
  obtain ⟨⟨e0, e1, e2, e3, e4⟩, ef⟩ := hD0
  have ef0 := ef 0; have ef1 := ef 1; have ef2 := ef 2; have ef3 := ef 3; have ef4 := ef 4
  clear f ef hB0 hS0 ho hpl hsl
  go_enter Try.func59, Try.ntmps59
  go_wp2
  go_quiet (first | (go_at_call 83; exact Calls.quiet_of_same (HQ1.out _)) | (go_at_call 84; exact Calls.quiet_of_same (HQ2.out _)))
  obtain ⟨V, hV⟩ : ∃ V, W0.drewN nq = V := ⟨_, rfl⟩
  have HBV : Hid (Below w.heap.size w V) := by rw [← hV]; exact below_drewN HB0.out _
  rw [hV]
  have C0 : V.cell? ⟨w.heap.size, 0, none⟩ = some (.slice p n c) := by rw [← hV]; exact c0
  have C1 : V.cell? ⟨w.heap.size, 1, none⟩ = some (.int .i64 za) := by rw [← hV]; exact c1
  have C2 : V.cell? ⟨w.heap.size, 2, none⟩ = some (.int .i64 zb) := by rw [← hV]; exact c2
  have C3 : V.cell? ⟨w.heap.size, 3, none⟩ = some (.int .i64 zt) := by rw [← hV]; exact c3
  have C4 : V.cell? ⟨w.heap.size, 4, none⟩ = some (.slice s m d) := by rw [← hV]; exact c4
  have E0 : V.cell? ⟨w.heap.size + 1, 0, none⟩ = some (.slice none 0 0) := by rw [← hV]; exact e0
  have E1 : V.cell? ⟨w.heap.size + 1, 1, none⟩ = some (.int .i64 0) := by rw [← hV]; exact e1
  have E2 : V.cell? ⟨w.heap.size + 1, 2, none⟩ = some (.int .i64 0) := by rw [← hV]; exact e2
  have E3 : V.cell? ⟨w.heap.size + 1, 3, none⟩ = some (.int .i64 0) := by rw [← hV]; exact e3
  have E4 : V.cell? ⟨w.heap.size + 1, 4, none⟩ = some (.slice none 0 0) := by rw [← hV]; exact e4
  have F0 : V.frozen? ⟨w.heap.size + 1, 0, none⟩ = false := by rw [← hV]; exact ef0
  have F1 : V.frozen? ⟨w.heap.size + 1, 1, none⟩ = false := by rw [← hV]; exact ef1
  have F2 : V.frozen? ⟨w.heap.size + 1, 2, none⟩ = false := by rw [← hV]; exact ef2
  have F3 : V.frozen? ⟨w.heap.size + 1, 3, none⟩ = false := by rw [← hV]; exact ef3
  have F4 : V.frozen? ⟨w.heap.size + 1, 4, none⟩ = false := by rw [← hV]; exact ef4
  clear c0 c1 c2 c3 c4 e0 e1 e2 e3 e4 ef0 ef1 ef2 ef3 ef4 hV HQ1 HQ2 hW0
  clear h1
  by_cases h12 : n = 12
  · have i1 : ((n : Int) == 12) = true := by rw [beq_iff_eq]; omega
    clear h12 h2
    go_wp2
    refine bodyPost_ret (v := .tuple #[.agg #[.slice p n c, .int .i64 za, .int .i64 zb, .int .i64 zt, .slice s m d], .int .i64 2]) (by simp [results, Try.results59, go_sem, E0, E1, E2, E3, E4]; try rfl) rfl ?_
    refine ⟨⟨p, c, s, d, ?_, ?_⟩, HBV.out.trans (below_grown (put5_grown _ _ _ _ _ _ _) (by omega) HBV.out.size)⟩
    · show _ = Ending.returned (.tuple #[.agg #[.slice p xs.length c, .int .i64 za, .int .i64 zb, .int .i64 zt, .slice s ys.length d], .int .i64 2])
      rw [HPL.out, HSL.out]
    · refine (HO.out.later HBV.out).kept (put5_grown V (w.heap.size + 1) (.slice p n c) za zb zt (.slice s m d)) ⟨fun k e => ?_, fun k e => ?_⟩
      · have := HLT.out.1 k (by rw [← HPL.out]; exact e); omega
      · have := HLT.out.2 k (by rw [← HSL.out]; exact e); omega
  · have i1 : ((n : Int) == 12) = false := by rw [beq_eq_false_iff_ne]; omega
    have i2 : ((m : Int) == 100) = true := by rw [beq_iff_eq]; omega
    clear h12 h2
    go_wp2
    refine bodyPost_ret (v := .tuple #[.agg #[.slice p n c, .int .i64 za, .int .i64 zb, .int .i64 zt, .slice s m d], .int .i64 2]) (by simp [results, Try.results59, go_sem, E0, E1, E2, E3, E4]; try rfl) rfl ?_
    refine ⟨⟨p, c, s, d, ?_, ?_⟩, HBV.out.trans (below_grown (put5_grown _ _ _ _ _ _ _) (by omega) HBV.out.size)⟩
    · show _ = Ending.returned (.tuple #[.agg #[.slice p xs.length c, .int .i64 za, .int .i64 zb, .int .i64 zt, .slice s ys.length d], .int .i64 2])
      rw [HPL.out, HSL.out]
    · refine (HO.out.later HBV.out).kept (put5_grown V (w.heap.size + 1) (.slice p n c) za zb zt (.slice s m d)) ⟨fun k e => ?_, fun k e => ?_⟩
      · have := HLT.out.1 k (by rw [← HPL.out]; exact e); omega
      · have := HLT.out.2 k (by rw [← HSL.out]; exact e); omega

set_option maxHeartbeats 4000000 in
theorem l8Put_zero (B : Nat) (p s : Option Addr) (n c m d : Nat) (z : MixV) (t : ByteArray) (w : World) (hpl : z.pool.length = n) (hsl : z.seen.length = m) (hn : n ≤ 1000) (hm : m ≤ 1000) (hB : B ≤ w.heap.size) (ho : MixOwn w B p c s d z) (ht : t.size ≤ 9223372036854775807) (h1 : tagN t ∉ z.seen) (h2 : ¬ (n = 12 ∨ m = 100)) (hR : Ris ltI z.seen) (hnp : t ∉ z.pool) :
    Calls Try.prog 59 #[.agg #[.slice p n c, .int .i64 z.least, .int .i64 z.wait, .int .i64 z.old, .slice s m d], .string t] w fun e w' => PutV w' B e ⟨insL ltS t z.pool, z.least, z.wait, z.old, insL ltI (tagN t) z.seen⟩ 0 ∧ Below w.heap.size w w' := by
  obtain ⟨xs, za, zb, zt, ys⟩ := z
  obtain ⟨W0, hW0, hC0, hD0, hB0, hS0⟩ := two_boxes w (.slice p n c) za zb zt (.slice s m d) 41
  have HB0 : Hid (Below w.heap.size w W0) := hB0
  have HLT : Hid ((∀ k, (Value.slice p n c).ownBlock = some k → k < w.heap.size) ∧ ∀ k, (Value.slice s m d).ownBlock = some k → k < w.heap.size) := by
    have h := ho.lt
    have e1 : xs.length = n := hpl
    have e2 : ys.length = m := hsl
    simp only [e1, e2] at h
    exact ⟨fun k e => (h.1 k e).2, fun k e => (h.2 k e).2⟩
  have HO : Hid (MixOwn w B p c s d ⟨xs, za, zb, zt, ys⟩) := ho
  have HPL : Hid (xs.length = n) := hpl
  have HSL : Hid (ys.length = m) := hsl
  have HQ1 : Hid (∀ wx, Calls Try.prog 83 #[.string t] wx fun e w' => e = .returned (.int .i64 (tagN t)) ∧ w' = wx) := fun wx => l8Tag_c t wx ht
  have HQ2 : Hid (∀ k, Calls Try.prog 84 #[.slice s m d, .int .i64 (tagN t)] (W0.drewN k) fun e w' => e = .returned (.bool false) ∧ w' = W0.drewN k) := fun k => by
    have h := l1Has_c s m d (tagN t) ys (W0.drewN k) hsl (by omega) ((ho.rd.rs.later hB0).later (below_drewN (Below.refl _ _) k))
    rw [decide_eq_false h1] at h; exact h
  have HLP : Hid (∀ wx, OwnS wx B (.slice p n c) xs → Calls Try.prog 95 #[.slice p n c, .string t] wx fun e w' => ∃ a' c', e = .returned (.slice a' (n + 1) c') ∧ OwnS w' wx.heap.size (.slice a' (n + 1) c') (insL ltS t xs) ∧ Below wx.heap.size wx w') := fun wx h => by
    have q := l8Place_c B p n c xs t wx hpl hn h
    rw [insL_le hnp] at q; exact q
  have HIP : Hid (∀ wx, Own wx B (.slice s m d) ys → Calls Try.prog 96 #[.slice s m d, .int .i64 (tagN t)] wx fun e w' => ∃ a' c', e = .returned (.slice a' (m + 1) c') ∧ Own w' wx.heap.size (.slice a' (m + 1) c') (insL ltI (tagN t) ys) ∧ Below wx.heap.size wx w') := fun wx h => l1Put_c B s m d ys (tagN t) wx hsl hm h h1
  have HOP : Hid (OwnS W0 B (.slice p n c) xs) := by have h := ho.op.later hB0; have e : xs.length = n := hpl; simp only [e] at h; exact h
  have HOS : Hid (Own W0 B (.slice s m d) ys) := by have h := ho.os.later hB0; have e : ys.length = m := hsl; simp only [e] at h; exact h
  have HL1 : Hid ((insL ltS t xs).length = n + 1) := by show _ = _; rw [insL_length]; exact congrArg (· + 1) hpl
  have HL2 : Hid ((insL ltI (tagN t) ys).length = m + 1) := by show _ = _; rw [insL_length]; exact congrArg (· + 1) hsl
  have i1 : ((n : Int) == 12) = false := by rw [beq_eq_false_iff_ne]; omega
  have i2 : ((m : Int) == 100) = false := by rw [beq_eq_false_iff_ne]; omega
  have HS0 : Hid (W0.heap.size = w.heap.size + 2) := hS0
  have HC0 : Hid (C5 W0 w.heap.size (.slice p n c) za zb zt (.slice s m d)) := hC0
  have HD0 : Hid (C5 W0 (w.heap.size + 1) (.slice none 0 0) 0 0 0 (.slice none 0 0)) := hD0
  clear h2 hnp hR
  generalize tagN t = g at HQ1 HQ2 HIP HL2 h1
  obtain ⟨⟨c0, c1, c2, c3, c4⟩, f⟩ := hC0
  obtain ⟨⟨e0, e1, e2, e3, e4⟩, ef⟩ := hD0
  have ef0 := ef 0; have ef1 := ef 1; have ef2 := ef 2; have ef3 := ef 3; have ef4 := ef 4
  clear f ef hB0 hS0 ho hpl hsl
  go_enter Try.func59, Try.ntmps59
  go_wp2
  go_quiet (first | (go_at_call 83; exact Calls.quiet_of_same (HQ1.out _)) | (go_at_call 84; exact Calls.quiet_of_same (HQ2.out _)))
  obtain ⟨V, hV⟩ : ∃ V, W0.drewN nq = V := ⟨_, rfl⟩
  have HBV : Hid (Below w.heap.size w V) := by rw [← hV]; exact below_drewN HB0.out _
  rw [hV]
  have C0 : V.cell? ⟨w.heap.size, 0, none⟩ = some (.slice p n c) := by rw [← hV]; exact c0
  have C1 : V.cell? ⟨w.heap.size, 1, none⟩ = some (.int .i64 za) := by rw [← hV]; exact c1
  have C2 : V.cell? ⟨w.heap.size, 2, none⟩ = some (.int .i64 zb) := by rw [← hV]; exact c2
  have C3 : V.cell? ⟨w.heap.size, 3, none⟩ = some (.int .i64 zt) := by rw [← hV]; exact c3
  have C4 : V.cell? ⟨w.heap.size, 4, none⟩ = some (.slice s m d) := by rw [← hV]; exact c4
  have E0 : V.cell? ⟨w.heap.size + 1, 0, none⟩ = some (.slice none 0 0) := by rw [← hV]; exact e0
  have E1 : V.cell? ⟨w.heap.size + 1, 1, none⟩ = some (.int .i64 0) := by rw [← hV]; exact e1
  have E2 : V.cell? ⟨w.heap.size + 1, 2, none⟩ = some (.int .i64 0) := by rw [← hV]; exact e2
  have E3 : V.cell? ⟨w.heap.size + 1, 3, none⟩ = some (.int .i64 0) := by rw [← hV]; exact e3
  have E4 : V.cell? ⟨w.heap.size + 1, 4, none⟩ = some (.slice none 0 0) := by rw [← hV]; exact e4
  have F0 : V.frozen? ⟨w.heap.size + 1, 0, none⟩ = false := by rw [← hV]; exact ef0
  have F1 : V.frozen? ⟨w.heap.size + 1, 1, none⟩ = false := by rw [← hV]; exact ef1
  have F2 : V.frozen? ⟨w.heap.size + 1, 2, none⟩ = false := by rw [← hV]; exact ef2
  have F3 : V.frozen? ⟨w.heap.size + 1, 3, none⟩ = false := by rw [← hV]; exact ef3
  have F4 : V.frozen? ⟨w.heap.size + 1, 4, none⟩ = false := by rw [← hV]; exact ef4
  have HCV : Hid (C5 V w.heap.size (.slice p n c) za zb zt (.slice s m d)) := by rw [← hV]; exact HC0.out.later (below_drewN (Below.refl _ _) _)
  have HDV : Hid (C5 V (w.heap.size + 1) (.slice none 0 0) 0 0 0 (.slice none 0 0)) := by rw [← hV]; exact HD0.out.later (below_drewN (Below.refl _ _) _)
  have HOPV : Hid (OwnS V B (.slice p n c) xs) := by rw [← hV]; exact HOP.out.later (below_drewN (Below.refl _ _) _)
  have HOSV : Hid (Own V B (.slice s m d) ys) := by rw [← hV]; exact HOS.out.later (below_drewN (Below.refl _ _) _)
  have HZV : Hid (w.heap.size + 2 ≤ V.heap.size) := by rw [← hV]; exact Nat.le_of_eq HS0.out.symm
  clear c0 c1 c2 c3 c4 e0 e1 e2 e3 e4 ef0 ef1 ef2 ef3 ef4 hV HQ2 hW0 E0 E1 E2 E3 E4 F0 F1 F2 F3 F4 h1
  go_wp2_with fail
  refine (HLP.out _ HOPV.out).mono ?_
  clear HLP C0 C1 C2 C3 C4
  rintro e w1 ⟨p1, k1, rfl, ho1, hb1⟩
  have HC1 : Hid (C5 w1 w.heap.size (.slice p n c) za zb zt (.slice s m d)) := HCV.out.later hb1
  have HD1 : Hid (C5 w1 (w.heap.size + 1) (.slice none 0 0) 0 0 0 (.slice none 0 0)) := HDV.out.later hb1
  have HO1 : Hid (OwnS w1 (w.heap.size + 2) (.slice p1 (n + 1) k1) (insL ltS t xs)) := ho1.mono HZV.out
  have HS1 : Hid (Own w1 B (.slice s m d) ys) := HOSV.out.later hb1
  have HB1 : Hid (Below w.heap.size w w1) := HBV.out.trans (hb1.mono HBV.out.size)
  have HZ1 : Hid (w.heap.size + 2 ≤ w1.heap.size) := Nat.le_trans HZV.out hb1.size
  clear ho1 hb1
  have hg := grown_setCell w1 w.heap.size 0 (.slice p1 (n + 1) k1)
  have HC2 := HC1.out.set0 (.slice p1 (n + 1) k1)
  have HD2 := HD1.out.setOther (g := w.heap.size) (k := 0) (by omega) (.slice p1 (n + 1) k1)
  have HO2 := HO1.out.setBox (r := w.heap.size) (k := 0) (by omega) (.slice p1 (n + 1) k1)
  have HS2 := HS1.out.kept hg (Or.inr fun e => by have := HLT.out.2 _ e; omega)
  have HB2 := HB1.out.setCell (p := ⟨w.heap.size, 0, none⟩) (Nat.le_refl _) (.slice p1 (n + 1) k1)
  have hz2 : (w1.setCell ⟨w.heap.size, 0, none⟩ (.slice p1 (n + 1) k1)).heap.size = w1.heap.size := by simp
  obtain ⟨⟨d0, _, _, _, _⟩, df⟩ := HC1.out
  have df0 := df 0
  obtain ⟨U, hU⟩ : ∃ U, w1.setCell ⟨w.heap.size, 0, none⟩ (.slice p1 (n + 1) k1) = U := ⟨_, rfl⟩
  rw [hU] at HC2 HD2 HO2 HS2 HB2 hz2
  have KC2 : Hid (C5 U w.heap.size (.slice p1 (n + 1) k1) za zb zt (.slice s m d)) := HC2
  have KD2 : Hid (C5 U (w.heap.size + 1) (.slice none 0 0) 0 0 0 (.slice none 0 0)) := HD2
  have KO2 : Hid (OwnS U (w.heap.size + 2) (.slice p1 (n + 1) k1) (insL ltS t xs)) := HO2
  have KS2 : Hid (Own U B (.slice s m d) ys) := HS2
  have KB2 : Hid (Below w.heap.size w U) := HB2
  have KZ2 : Hid (w.heap.size + 2 ≤ U.heap.size) := by show _ ≤ _; rw [hz2]; exact HZ1.out
  obtain ⟨⟨c0, c1, c2, c3, c4⟩, f⟩ := HC2
  clear f df hg HD2 HO2 HS2 HB2 hz2 HC1 HD1 HO1 HS1 HB1 HZ1
  go_wp2
  go_region_with (first
    | (go_at_call 83; refine (HQ1.out _).mono ?_; rintro e w4 ⟨rfl, hw4⟩; have hb4 : Below U.heap.size U w4 := (by rw [hw4]; first | exact Below.refl _ _ | exact (Below.refl U.heap.size U).drew); have HC5 : Hid (C5 w4 w.heap.size (.slice p1 (n + 1) k1) za zb zt (.slice s m d)) := KC2.out.later hb4; have HD5 : Hid (C5 w4 (w.heap.size + 1) (.slice none 0 0) 0 0 0 (.slice none 0 0)) := KD2.out.later hb4; have HO5 : Hid (OwnS w4 (w.heap.size + 2) (.slice p1 (n + 1) k1) (insL ltS t xs)) := KO2.out.later hb4; have HS5 : Hid (Own w4 B (.slice s m d) ys) := KS2.out.later hb4; have HB5 : Hid (Below w.heap.size w w4) := KB2.out.trans (hb4.mono KB2.out.size); have HZ5 : Hid (w.heap.size + 2 ≤ w4.heap.size) := Nat.le_trans KZ2.out hb4.size; have m4 : w4.cell? ⟨w.heap.size, 4, none⟩ = some (.slice s m d) := HC5.out.1.2.2.2.2; clear hb4 hw4)
    | (go_at_call 96; refine (HIP.out _ HS5.out).mono ?_; rintro e w5 ⟨s5, d5, rfl, ho5, hb5⟩; have HC6 : Hid (C5 w5 w.heap.size (.slice p1 (n + 1) k1) za zb zt (.slice s m d)) := HC5.out.later hb5; have HD6 : Hid (C5 w5 (w.heap.size + 1) (.slice none 0 0) 0 0 0 (.slice none 0 0)) := HD5.out.later hb5; have HO6 : Hid (OwnS w5 (w.heap.size + 2) (.slice p1 (n + 1) k1) (insL ltS t xs)) := HO5.out.later hb5; have HS6 : Hid (Own w5 (w.heap.size + 2) (.slice s5 (m + 1) d5) (insL ltI g ys)) := ho5.mono HZ5.out; have HB6 : Hid (Below w.heap.size w w5) := HB5.out.trans (hb5.mono HB5.out.size); have m4' : w5.cell? ⟨w.heap.size, 4, none⟩ = some (.slice s m d) := HC6.out.1.2.2.2.2; have mf : w5.frozen? ⟨w.heap.size, 4, none⟩ = false := HC6.out.2 4; clear ho5 hb5))
  all_goals (
    clear hU c0 c1 c2 c3 c4 d0 df0 m4
    have hC7 := HC6.out.set4 (.slice s5 (m + 1) d5)
    have hD7 := HD6.out.setOther (g := w.heap.size) (k := 4) (by omega) (.slice s5 (m + 1) d5)
    have hO7 := HO6.out.setBox (r := w.heap.size) (k := 4) (by omega) (.slice s5 (m + 1) d5)
    have hS7 := HS6.out.setBox (r := w.heap.size) (k := 4) (by omega) (.slice s5 (m + 1) d5)
    have hB7 := HB6.out.setCell (p := ⟨w.heap.size, 4, none⟩) (Nat.le_refl _) (.slice s5 (m + 1) d5)
    obtain ⟨U2, hU2⟩ : ∃ U2, w5.setCell ⟨w.heap.size, 4, none⟩ (.slice s5 (m + 1) d5) = U2 := ⟨_, rfl⟩
    rw [hU2] at hC7 hD7 hO7 hS7 hB7
    have HO7 : Hid (OwnS U2 (w.heap.size + 2) (.slice p1 (n + 1) k1) (insL ltS t xs)) := hO7
    have HS7 : Hid (Own U2 (w.heap.size + 2) (.slice s5 (m + 1) d5) (insL ltI g ys)) := hS7
    have HB7 : Hid (Below w.heap.size w U2) := hB7
    obtain ⟨⟨c0, c1, c2, c3, c4⟩, f⟩ := hC7
    obtain ⟨⟨e0, e1, e2, e3, e4⟩, ef⟩ := hD7
    have ef0 := ef 0; have ef1 := ef 1; have ef2 := ef 2; have ef3 := ef 3; have ef4 := ef 4
    clear f ef hO7 hS7 hB7
    go_wp2
    refine bodyPost_ret (v := .tuple #[.agg #[.slice p1 (n + 1) k1, .int .i64 za, .int .i64 zb, .int .i64 zt, .slice s5 (m + 1) d5], .int .i64 0]) (by simp [results, Try.results59, go_sem, e0, e1, e2, e3, e4]; try rfl) rfl ?_
    refine ⟨⟨p1, k1, s5, d5, ?_, ?_, ?_⟩, HB7.out.trans (below_grown (put5_grown _ _ _ _ _ _ _) (by omega) HB7.out.size)⟩
    · show _ = Ending.returned (.tuple #[.agg #[.slice p1 (insL ltS t xs).length k1, .int .i64 za, .int .i64 zb, .int .i64 zt, .slice s5 (insL ltI g ys).length d5], .int .i64 0])
      rw [HL1.out, HL2.out]
    · show OwnS _ B (.slice p1 (insL ltS t xs).length k1) (insL ltS t xs)
      rw [HL1.out]; exact (HO7.out.putBox (r := w.heap.size + 1) (by omega) _ _ _ _ _).mono (by omega)
    · show Own _ B (.slice s5 (insL ltI g ys).length d5) (insL ltI g ys)
      rw [HL2.out]; exact (HS7.out.putBox (r := w.heap.size + 1) (by omega) _ _ _ _ _).mono (by omega))

/-- A text put into a good mix. -/
theorem l8Put_c (B : Nat) (p s : Option Addr) (n c m d : Nat) (z : MixV) (t : ByteArray) (w : World) (hpl : z.pool.length = n) (hsl : z.seen.length = m) (hB : B ≤ w.heap.size) (ho : MixOwn w B p c s d z) (ht : t.size ≤ 9223372036854775807) (g : GoodV z) :
    Calls Try.prog 59 #[.agg #[.slice p n c, .int .i64 z.least, .int .i64 z.wait, .int .i64 z.old, .slice s m d], .string t] w fun e w' => PutV w' B e (putM z t).1 (putM z t).2 ∧ Below w.heap.size w w' := by
  have hn : n ≤ 1000 := by have := g.many; omega
  have hm : m ≤ 1000 := by have := g.seens; omega
  unfold putM
  by_cases h1 : tagN t ∈ z.seen
  · rw [if_pos h1]
    exact l8Put_one B p s n c m d z t w hpl hsl hm hB ho ht h1
  · rw [if_neg h1]
    by_cases h2 : z.pool.length = 12 ∨ z.seen.length = 100
    · rw [if_pos h2]
      exact l8Put_two B p s n c m d z t w hpl hsl hn hm hB ho ht h1 (by rw [← hpl, ← hsl]; exact h2)
    · rw [if_neg h2]
      exact l8Put_zero B p s n c m d z t w hpl hsl hn hm hB ho ht h1 (by rw [← hpl, ← hsl]; exact h2) g.risen (put_notin g h1)

end Go.Proofs.Ytnppmgnfignbcaa
