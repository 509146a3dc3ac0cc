/- The law FnHidden, walked: true at every two texts. -/
import Derived.Test.YtamppekadobagaaFH5P
namespace Go.Proofs.Ytamppekadobagaa
set_option linter.unusedVariables false
set_option linter.unusedSimpArgs false
open Go.RowKit

/-- A box of two numbers. -/
def Bx2 (w : World) (b : Nat) (x y : Int) : Prop := w.cell? ⟨b, 0, none⟩ = some (.int .i64 x) ∧ w.cell? ⟨b, 1, none⟩ = some (.int .i64 y)
theorem Bx2.later {w w' : World} {b : Nat} {x y : Int} (h : Bx2 w b x y) (hb : Below w.heap.size w w') : Bx2 w' b x y := ⟨cell_keep (S := 0) hb h.1, cell_keep (S := 0) hb h.2⟩


theorem own_empty (X : World) {B : Nat} (h : B ≤ X.heap.size) : (X.alloc (.cells #[] 46)).ownsRow B 46 2 (.slice (some ⟨X.heap.size, 0, none⟩) 0 0) 0 (cellsP []) :=
  ⟨rfl, .inr ⟨X.heap.size, 0, _, rfl, h, World.alloc_heap_new X _, Nat.le_refl _, by unfold maxLen; omega, rfl, rfl⟩⟩
theorem two_news {X : World} {b : Nat} {x y : Int} (h : Bx2 X b x y) : ∀ j u, (cellsP [(x, y)])[j]? = some u → X.cell? ((⟨b, 0, none⟩ : Addr).add j) = some u := fun j u hj => by
  match j with
  | 0 => simp [cellsP] at hj; subst hj; exact h.1
  | 1 => simp [cellsP] at hj; subst hj; exact h.2
  | j + 2 => simp [cellsP] at hj
theorem row_news {X : World} {B q c ga offa : Nat} {zs : List (Int × Int)} (h : RowP X B (some ⟨ga, offa, none⟩) q c zs) (hq : q ≠ 0) : ∀ j u, (cellsP zs)[j]? = some u → X.cell? ((⟨ga, offa, none⟩ : Addr).add j) = some u := by
  obtain ⟨g, o, e, _, _, hc⟩ := h.at hq
  cases e
  exact rdP_cells h.1 (fun j hj => (hc j hj).1)
theorem Bx2.new (X : World) (x y : Int) : Bx2 (X.alloc (.cells #[.int .i64 x, .int .i64 y] 46)) X.heap.size x y := ⟨by simp, by simp⟩
theorem Bx2.grown {X Y : World} {b r : Nat} {x y : Int} (h : Bx2 X b x y) (hg : X.grownBy Y (some r)) (hne : b ≠ r) : Bx2 Y b x y := ⟨hg.cell (a := ⟨b, 0, none⟩) h.1 (by simp; omega), hg.cell (a := ⟨b, 1, none⟩) h.2 (by simp; omega)⟩

theorem takeH5 {P : Program} {ops : Array Oper} {Q : Exit → Act → World → Prop} {md : Region.Mode} {S : World → Prop} {i : Nat} {oi : Oper} {v : Value} {d : Option Tmp} {fuel : Nat} {listed : Array Bool} {a : Act} {w : World} (hi : ops[i]? = some oi) (hd : oi.dst = d)
    (hs : Region.noSelect ops = true) (hf : Region.free md ops listed i = true) (hr : (Region.ready md ops listed).contains i = true)
    (hQ : ∀ c a w, Q (.panic c) (a.put d v) w → Q (.panic c) a w) (hy : YieldsIf P ops S oi v a) (hS : S w)
    (h : wpAnyH P md ops Q S fuel (listed.setIfInBounds i true) (a.put d v) w) : wpAnyH P md ops Q S (fuel + 1) listed a w := by
  subst hd
  exact wpAnyH_take hi hs hf hr hQ hy hS h

set_option maxHeartbeats 16000000 in
set_option maxRecDepth 1000000 in
theorem lawFnHidden_c (ao : Option Addr) (n c : Nat) (bo : Option Addr) (m d : Nat) (w : World) (hn : n ≤ 9223372036854775807) (hm : m ≤ 9223372036854775807) (h1 : CodeOk w w.heap.size ao n) (h2 : CodeOk w w.heap.size bo m) :
    Calls Try.prog 4 #[.slice ao n c, .slice bo m d] w fun e w' => e = .returned (.bool true) ∧ Below w.heap.size w w' := by
  by_cases hl : 1048576 < wrap64 ((n : Int) + (m : Int))
  · clear h1 h2
    go_enter Try.func4, Try.ntmps4
    go_wp2
    go_ret
    exact ⟨rfl, Below.refl _ _⟩
  have HN : Hid (CodeOk w w.heap.size ao n) := h1
  have HM : Hid (CodeOk w w.heap.size bo m) := h2
  have HB0 : Hid (Below w.heap.size w w) := Below.refl _ _
  clear h1 h2
  go_enter Try.func4, Try.ntmps4
  go_wp2_with fail
  refine (drawFits_c ao n c _ hn (HN.out.later HB0.out HB0.out.size)).mono ?_
  rintro e w1 ⟨a1, q1, c1, zs, s, rfl, hq1, hr, hs, hb⟩
  have HB1 : Hid (Below w.heap.size w w1) := HB0.out.trans (hb.mono HB0.out.size)
  have PO_1 : Hid (RowP w1 w.heap.size a1 q1 c1 zs) := hr
  clear hb HB0
  clear hr
  have HL1 : Hid (zs.length = q1) := PO_1.out.1
  obtain ⟨x, y, fb, hF⟩ : ∃ x y fb, fitsF zs s = ((x, y), fb) := ⟨_, _, _, rfl⟩
  have HF : Hid (fitsF zs s = ((x, y), fb)) := hF
  have hfb : (fb != fb) = false := by simp
  clear hF
  go_wp2_with fail
  refine (implFits_c a1 q1 c1 zs s _ HL1.out (by omega) PO_1.out.rd x y fb HF.out).mono ?_
  rintro e V2 ⟨rfl, hb⟩
  obtain ⟨w2, hw2⟩ : ∃ w2, V2.alloc (.cells #[.int .i64 x, .int .i64 y] 46) = w2 := ⟨_, rfl⟩
  have hbx : Below w1.heap.size w1 w2 := hb.trans (by rw [← hw2]; exact (balloc _ _).mono hb.size)
  obtain ⟨b1, hb1⟩ : ∃ b1, V2.heap.size = b1 := ⟨_, rfl⟩
  have HB2 : Hid (Below w.heap.size w w2) := HB1.out.trans (hbx.mono HB1.out.size)
  have PO_2 : Hid (RowP w2 w.heap.size a1 q1 c1 zs) := PO_1.out.later hbx
  have Xb1_2 : Hid (Bx2 w2 b1 x y) := by rw [← hw2, ← hb1]; exact ⟨by simp, by simp⟩
  clear hb hbx HB1 PO_1
  have hh : V2.heap.size = b1 := hb1
  go_wp2_with fail
  refine (specFits_c a1 q1 c1 zs s _ HL1.out (by omega) PO_2.out.rd x y fb HF.out).mono ?_
  rintro e V3 ⟨rfl, hb⟩
  obtain ⟨w3, hw3⟩ : ∃ w3, V3.alloc (.cells #[.int .i64 x, .int .i64 y] 46) = w3 := ⟨_, rfl⟩
  have hbx : Below w2.heap.size w2 w3 := hb.trans (by rw [← hw3]; exact (balloc _ _).mono hb.size)
  obtain ⟨b2, hb2⟩ : ∃ b2, V3.heap.size = b2 := ⟨_, rfl⟩
  have HB3 : Hid (Below w.heap.size w w3) := HB2.out.trans (hbx.mono HB2.out.size)
  have PO_3 : Hid (RowP w3 w.heap.size a1 q1 c1 zs) := PO_2.out.later hbx
  have Xb1_3 : Hid (Bx2 w3 b1 x y) := Xb1_2.out.later hbx
  have Xb2_3 : Hid (Bx2 w3 b2 x y) := by rw [← hw3, ← hb2]; exact ⟨by simp, by simp⟩
  clear hb hbx HB2 PO_2 Xb1_2
  have hh : V3.heap.size = b2 := hb2
  have n1 := Xb1_3.out.1
  have n2 := Xb1_3.out.2
  have n3 := Xb2_3.out.1
  have n4 := Xb2_3.out.2
  have hne : ∀ wx : World, (binOp .neq 46 (.agg #[.int .i64 x, .int .i64 y]) (.agg #[.int .i64 x, .int .i64 y])).run Try.prog wx = .ok (.bool false) wx := fun wx => by rw [run_neq_part]; simp
  clear hw2 hh
  cases fb with
  | false =>
    go_wp2_with fail
    clear n1 n2 n3 n4 hne hw3 hb1 hb2
    clear PO_3
    clear Xb1_3
    clear Xb2_3
    go_wp2_with fail
    refine (drawThrough_c bo m d _ hm (HM.out.later HB3.out HB3.out.size)).mono ?_
    rintro e w4 ⟨aa, qa, ca, za, xa, rfl, hqa, hr, hxa, hb⟩
    have HB4 : Hid (Below w.heap.size w w4) := HB3.out.trans (hb.mono HB3.out.size)
    have PA_4 : Hid (RowP w4 w3.heap.size aa qa ca za) := hr
    clear hb HB3
    clear hr 
    have HLA : Hid (za.length = qa) := PA_4.out.1
    obtain ⟨va, fa, hFa⟩ : ∃ va fa, throughF za xa = (va, fa) := ⟨_, _, rfl⟩
    have HFA : Hid (throughF za xa = (va, fa)) := hFa
    clear hFa
    go_wp2_with fail
    refine (implThrough_c aa qa ca za xa _ HLA.out (by omega) PA_4.out.rd va fa HFA.out).mono ?_
    rintro e w5 ⟨rfl, hb⟩
    have HB5 : Hid (Below w.heap.size w w5) := HB4.out.trans (hb.mono HB4.out.size)
    have PA_5 : Hid (RowP w5 w3.heap.size aa qa ca za) := PA_4.out.later hb
    clear hb HB4 PA_4
    go_wp2_with fail
    refine (specThrough_c aa qa ca za xa _ HLA.out (by omega) PA_5.out.rd va fa HFA.out).mono ?_
    rintro e w6 ⟨rfl, hb⟩
    have HB6 : Hid (Below w.heap.size w w6) := HB5.out.trans (hb.mono HB5.out.size)
    have PA_6 : Hid (RowP w6 w3.heap.size aa qa ca za) := PA_5.out.later hb
    clear hb HB5 PA_5
    clear PA_6
    go_wp2_with fail
    refine (drawPoly_c bo m d _ hm (HM.out.later HB6.out HB6.out.size)).mono ?_
    rintro e w7 ⟨ab, qb, cb, zb, rfl, hqb, hr, hb⟩
    have HB7 : Hid (Below w.heap.size w w7) := HB6.out.trans (hb.mono HB6.out.size)
    have PB_7 : Hid (RowP w7 w6.heap.size ab qb cb zb) := hr
    clear hb HB6
    clear hr
    have HLB : Hid (zb.length = qb) := PB_7.out.1
    obtain ⟨zc, fc, hFc⟩ : ∃ zc fc, polyThF zb = (zc, fc) := ⟨_, _, rfl⟩
    have HFC : Hid (polyThF zb = (zc, fc)) := hFc
    obtain ⟨pc, hpc⟩ : ∃ pc, zc.length = pc := ⟨_, rfl⟩
    have HPC : Hid (zc.length = pc) := hpc
    have hpc8 : pc ≤ 8 := by rw [← hpc]; exact polyThF_short hFc
    clear hFc hpc
    go_wp2_with fail
    refine (implPoly_c ab qb cb zb _ HLB.out (by omega) PB_7.out.rd zc fc pc HFC.out HPC.out).mono ?_
    rintro e w8 ⟨ac, cc, rfl, ho, hb⟩
    have HB8 : Hid (Below w.heap.size w w8) := HB7.out.trans (hb.mono HB7.out.size)
    have PB_8 : Hid (RowP w8 w6.heap.size ab qb cb zb) := PB_7.out.later hb
    have RC_8 : Hid (Own w8 w7.heap.size (.slice ac pc cc) zc) := ho
    clear hb HB7 PB_7
    clear ho
    go_wp2_with fail
    refine (specPoly_c ab qb cb zb _ HLB.out (by omega) PB_8.out.rd zc fc pc HFC.out HPC.out).mono ?_
    rintro e w9 ⟨ad, cd, rfl, ho, hb⟩
    have HB9 : Hid (Below w.heap.size w w9) := HB8.out.trans (hb.mono HB8.out.size)
    have PB_9 : Hid (RowP w9 w6.heap.size ab qb cb zb) := PB_8.out.later hb
    have RC_9 : Hid (Own w9 w7.heap.size (.slice ac pc cc) zc) := RC_8.out.later hb
    have RD_9 : Hid (Own w9 w8.heap.size (.slice ad pc cd) zc) := ho
    clear hb HB8 PB_8 RC_8
    clear ho
    go_wp2_with fail
    refine (drawWeights_c bo m d _ hm (HM.out.later HB9.out HB9.out.size)).mono ?_
    rintro e w10 ⟨ae, qe, ce, ze, rfl, hqe, hle, ho, hb⟩
    have HB10 : Hid (Below w.heap.size w w10) := HB9.out.trans (hb.mono HB9.out.size)
    have PB_10 : Hid (RowP w10 w6.heap.size ab qb cb zb) := PB_9.out.later hb
    have RC_10 : Hid (Own w10 w7.heap.size (.slice ac pc cc) zc) := RC_9.out.later hb
    have RD_10 : Hid (Own w10 w8.heap.size (.slice ad pc cd) zc) := RD_9.out.later hb
    have PE_10 : Hid (Own w10 w9.heap.size (.slice ae qe ce) ze) := ho
    clear hb HB9 PB_9 RC_9 RD_9
    clear ho
    have HLE : Hid (ze.length = qe) := hle
    obtain ⟨zf, ff, hFf⟩ : ∃ zf ff, weightsF ze = (zf, ff) := ⟨_, _, rfl⟩
    have HFF : Hid (weightsF ze = (zf, ff)) := hFf
    obtain ⟨pf, hpf⟩ : ∃ pf, zf.length = pf := ⟨_, rfl⟩
    have HPF : Hid (zf.length = pf) := hpf
    have hpf8 : pf ≤ 8 := by rw [← hpf]; exact weightsF_short hFf
    clear hFf hpf hle
    go_wp2_with fail
    refine (implWeights_c ae qe ce ze _ HLE.out (by omega) PE_10.out.cap PE_10.out.rd'.2 zf ff pf HFF.out HPF.out).mono ?_
    rintro e w11 ⟨af, cf, rfl, ho, hb⟩
    have HB11 : Hid (Below w.heap.size w w11) := HB10.out.trans (hb.mono HB10.out.size)
    have PB_11 : Hid (RowP w11 w6.heap.size ab qb cb zb) := PB_10.out.later hb
    have RC_11 : Hid (Own w11 w7.heap.size (.slice ac pc cc) zc) := RC_10.out.later hb
    have RD_11 : Hid (Own w11 w8.heap.size (.slice ad pc cd) zc) := RD_10.out.later hb
    have PE_11 : Hid (Own w11 w9.heap.size (.slice ae qe ce) ze) := PE_10.out.later hb
    have RF_11 : Hid (Own w11 w10.heap.size (.slice af pf cf) zf) := ho
    clear hb HB10 PB_10 RC_10 RD_10 PE_10
    clear ho
    go_wp2_with fail
    refine (specWeights_c ae qe ce ze _ HLE.out (by omega) PE_11.out.cap PE_11.out.rd'.2 zf ff pf HFF.out HPF.out).mono ?_
    rintro e w12 ⟨ag, cg, rfl, ho, hb⟩
    have HB12 : Hid (Below w.heap.size w w12) := HB11.out.trans (hb.mono HB11.out.size)
    have PB_12 : Hid (RowP w12 w6.heap.size ab qb cb zb) := PB_11.out.later hb
    have RC_12 : Hid (Own w12 w7.heap.size (.slice ac pc cc) zc) := RC_11.out.later hb
    have RD_12 : Hid (Own w12 w8.heap.size (.slice ad pc cd) zc) := RD_11.out.later hb
    have PE_12 : Hid (Own w12 w9.heap.size (.slice ae qe ce) ze) := PE_11.out.later hb
    have RF_12 : Hid (Own w12 w10.heap.size (.slice af pf cf) zf) := RF_11.out.later hb
    have RG_12 : Hid (Own w12 w11.heap.size (.slice ag pf cg) zf) := ho
    clear hb HB11 PB_11 RC_11 RD_11 PE_11 RF_11
    clear ho
    clear PE_12
    have r1 : (fa != fa) = false := by simp
    have r2 : (va != va) = false := by simp
    have r3 : (fc != fc) = false := by simp
    have r4 : (ff != ff) = false := by simp
    go_wp2_with fail
    refine (sameInts_c ac ad pc pc cc cd zc zc _ HPC.out HPC.out (by omega) (by omega) RC_12.out.rd'.2 RD_12.out.rd'.2).mono ?_
    rw [decide_eq_true rfl]
    rintro e w13 ⟨rfl, hb⟩
    have HB13 : Hid (Below w.heap.size w w13) := HB12.out.trans (hb.mono HB12.out.size)
    have PB_13 : Hid (RowP w13 w6.heap.size ab qb cb zb) := PB_12.out.later hb
    have RC_13 : Hid (Own w13 w7.heap.size (.slice ac pc cc) zc) := RC_12.out.later hb
    have RD_13 : Hid (Own w13 w8.heap.size (.slice ad pc cd) zc) := RD_12.out.later hb
    have RF_13 : Hid (Own w13 w10.heap.size (.slice af pf cf) zf) := RF_12.out.later hb
    have RG_13 : Hid (Own w13 w11.heap.size (.slice ag pf cg) zf) := RG_12.out.later hb
    clear hb HB12 PB_12 RC_12 RD_12 RF_12 RG_12
    clear RD_13
    go_wp2_with fail
    refine (sameInts_c af ag pf pf cf cg zf zf _ HPF.out HPF.out (by omega) (by omega) RF_13.out.rd'.2 RG_13.out.rd'.2).mono ?_
    rw [decide_eq_true rfl]
    rintro e w14 ⟨rfl, hb⟩
    have HB14 : Hid (Below w.heap.size w w14) := HB13.out.trans (hb.mono HB13.out.size)
    have PB_14 : Hid (RowP w14 w6.heap.size ab qb cb zb) := PB_13.out.later hb
    have RC_14 : Hid (Own w14 w7.heap.size (.slice ac pc cc) zc) := RC_13.out.later hb
    have RF_14 : Hid (Own w14 w10.heap.size (.slice af pf cf) zf) := RF_13.out.later hb
    have RG_14 : Hid (Own w14 w11.heap.size (.slice ag pf cg) zf) := RG_13.out.later hb
    clear hb HB13 PB_13 RC_13 RF_13 RG_13
    clear RG_14
    clear r1 r2 r3 r4
    cases ff with
    | false =>
      clear RF_14
      cases fc with
      | false =>
        go_wp2
        go_ret
        exact ⟨rfl, HB14.out⟩
      | true =>
        have T5 : Hid (∀ k, k < qb → valueF zc (zb.getD k (0, 0)).1 = ((zb.getD k (0, 0)).2, true)) := by show _; rw [← HLB.out]; exact poly_tell HFC.out
        go_wp2
        go_loopw [205] (fun i wr => ∃ k : Nat, k ≤ qb ∧ i = .int .i64 k ∧ Hid (Below w.heap.size w wr) ∧ Hid (RowP wr w6.heap.size ab qb cb zb) ∧ Hid (Own wr w7.heap.size (.slice ac pc cc) zc)) (fun i _ => qb - (intOf i).toNat)
        case atStart => exact ⟨0, Nat.zero_le _, rfl, HB14, PB_14, RC_14⟩
        case round =>
          clear HB14 PB_14 RC_14
          obtain ⟨k, hk, rfl, hBr, hPr, hCr⟩ := hrel
          by_cases hlt : k < qb
          · have h0 : (0 : Int) ≤ (k : Int) := by omega
            have hkl : (k : Int) < (qb : Int) := by omega
            obtain ⟨gb, ob, hgb, _, _, hcells⟩ := hPr.out.at (by omega)
            subst hgb
            obtain ⟨⟨d1, d2⟩, _⟩ := hcells k hlt
            have TV := T5.out k hlt
            generalize (zb.getD k (0, 0)).1 = kx at *
            generalize (zb.getD k (0, 0)).2 = ky at *
            have HV : Hid (valueF zc kx = (ky, true)) := TV
            have hkk : (ky != ky) = false := by simp
            clear TV hcells
            obtain ⟨V, hV⟩ : ∃ V, wr.alloc (.cells #[.int .i64 kx, .int .i64 ky] 46) = V := ⟨_, rfl⟩
            have BV : Hid (Below wr.heap.size wr V) := by rw [← hV]; exact balloc _ _
            have XV : Hid (Bx2 V wr.heap.size kx ky) := by rw [← hV]; exact Bx2.new _ _ _
            have x1 := XV.out.1
            go_wp2_with fail
            clear hV d1 d2 x1
            refine (implValue_c ac pc cc zc kx _ HPC.out (by omega) (hCr.out.later BV.out).rd'.2 ky true HV.out).mono ?_
            rintro e V2 ⟨rfl, hb⟩
            have BV2 : Below wr.heap.size wr V2 := BV.out.trans (hb.mono BV.out.size)
            have x2 := (XV.out.later hb).2
            have hB2 : Hid (Below w.heap.size w V2) := hBr.out.trans (BV2.mono hBr.out.size)
            have x2 := (XV.out.later hb).2
            have hB2 : Hid (Below w.heap.size w V2) := hBr.out.trans (BV2.mono hBr.out.size)
            have hP2 : Hid (RowP V2 w6.heap.size (some ⟨gb, ob, none⟩) qb cb zb) := hPr.out.later BV2
            have hC2 : Hid (Own V2 w7.heap.size (.slice ac pc cc) zc) := hCr.out.later BV2
            clear hb BV BV2 XV hBr hPr hCr
            go_wp2
            go_roundw
            case rel => exact ⟨k + 1, by omega, by go_num, hB2, hP2, hC2⟩
            case measure => simp [intOf]; omega
          · go_wp2
            go_ret
            exact ⟨rfl, hBr.out⟩
    | true =>
      obtain ⟨t1, t2, t3⟩ := weights_tell HFF.out
      have T1 : Hid (sumI zf = 1) := t1
      have T2 : Hid (∀ k, k < pf → 0 ≤ zf.getD k 0 ∧ zf.getD k 0 < 1499) := by rw [← HPF.out]; exact t2
      have T3 : Hid (∀ k, k ≤ pf → 0 ≤ sumI (zf.take k) ∧ sumI (zf.take k) < 1499) := by rw [← HPF.out]; exact t3
      clear t1 t2 t3
      have hpf : 0 < pf := by
        rcases Nat.eq_zero_or_pos pf with h0 | h0
        · have h1 := HPF.out
          rw [h0] at h1
          have h2 : zf = [] := List.length_eq_zero_iff.1 h1
          have h3 := T1.out
          rw [h2] at h3
          exact absurd h3 (by decide)
        · exact h0
      obtain ⟨gf, hgf, _⟩ := own_some RF_14.out hpf
      subst hgf
      have CF : Hid (∀ j, j < pf → w14.cell? ⟨gf, j, none⟩ = some (.int .i64 (zf.getD j 0))) := fun j hj => by
        have h := RF_14.out
        rw [← HPF.out] at h
        exact h.cell j (by rw [HPF.out]; exact hj)
      clear RF_14
      have HA : Hid (sumI (zf.take pf) = 1) := by show _ = _; rw [List.take_of_length_le (by rw [HPF.out]; exact Nat.le_refl _)]; exact T1.out
      go_wp2
      go_loop [32, 191] (fun nn i => ∃ k : Nat, k ≤ pf ∧ nn = .int .i64 (sumI (zf.take k)) ∧ i = .int .i64 k) (fun _ i => pf - (intOf i).toNat)
      case atStart => exact ⟨0, Nat.zero_le _, rfl, rfl⟩
      case round =>
        obtain ⟨k, hk, rfl, rfl⟩ := hrel
        by_cases hlt : k < pf
        · have h0 : (0 : Int) ≤ (k : Int) := by omega
          have hkl : (k : Int) < (pf : Int) := by omega
          have cz := CF.out k hlt
          have b1 := T2.out k hlt
          have b2 := T3.out k (by omega)
          have HS : Hid ((sumI (zf.take k) + zf.getD k 0) % 1499 = sumI (zf.take (k + 1))) := (sumI_step (by rw [HPF.out]; exact hlt)).symm
          generalize sumI (zf.take k) = A at *
          generalize zf.getD k 0 = e0 at *
          go_wp2
          go_round
          case rel => exact ⟨k + 1, by omega, by rw [← HS.out], by go_num⟩
          case measure => simp [intOf]; omega
        · obtain rfl : k = pf := by omega
          have ha := HA.out
          rw [ha]
          clear ha HA CF T1 T2 T3
          cases fc with
          | false =>
            go_wp2
            go_ret
            exact ⟨rfl, HB14.out⟩
          | true =>
            have T5 : Hid (∀ k, k < qb → valueF zc (zb.getD k (0, 0)).1 = ((zb.getD k (0, 0)).2, true)) := by show _; rw [← HLB.out]; exact poly_tell HFC.out
            go_wp2
            go_loopw [205] (fun i wr => ∃ k : Nat, k ≤ qb ∧ i = .int .i64 k ∧ Hid (Below w.heap.size w wr) ∧ Hid (RowP wr w6.heap.size ab qb cb zb) ∧ Hid (Own wr w7.heap.size (.slice ac pc cc) zc)) (fun i _ => qb - (intOf i).toNat)
            case atStart => exact ⟨0, Nat.zero_le _, rfl, HB14, PB_14, RC_14⟩
            case round =>
              clear HB14 PB_14 RC_14
              obtain ⟨k, hk, rfl, hBr, hPr, hCr⟩ := hrel
              by_cases hlt : k < qb
              · have h0 : (0 : Int) ≤ (k : Int) := by omega
                have hkl : (k : Int) < (qb : Int) := by omega
                obtain ⟨gb, ob, hgb, _, _, hcells⟩ := hPr.out.at (by omega)
                subst hgb
                obtain ⟨⟨d1, d2⟩, _⟩ := hcells k hlt
                have TV := T5.out k hlt
                generalize (zb.getD k (0, 0)).1 = kx at *
                generalize (zb.getD k (0, 0)).2 = ky at *
                have HV : Hid (valueF zc kx = (ky, true)) := TV
                have hkk : (ky != ky) = false := by simp
                clear TV hcells
                obtain ⟨V, hV⟩ : ∃ V, wr.alloc (.cells #[.int .i64 kx, .int .i64 ky] 46) = V := ⟨_, rfl⟩
                have BV : Hid (Below wr.heap.size wr V) := by rw [← hV]; exact balloc _ _
                have XV : Hid (Bx2 V wr.heap.size kx ky) := by rw [← hV]; exact Bx2.new _ _ _
                have x1 := XV.out.1
                go_wp2_with fail
                clear hV d1 d2 x1
                refine (implValue_c ac pc cc zc kx _ HPC.out (by omega) (hCr.out.later BV.out).rd'.2 ky true HV.out).mono ?_
                rintro e V2 ⟨rfl, hb⟩
                have BV2 : Below wr.heap.size wr V2 := BV.out.trans (hb.mono BV.out.size)
                have x2 := (XV.out.later hb).2
                have hB2 : Hid (Below w.heap.size w V2) := hBr.out.trans (BV2.mono hBr.out.size)
                have x2 := (XV.out.later hb).2
                have hB2 : Hid (Below w.heap.size w V2) := hBr.out.trans (BV2.mono hBr.out.size)
                have hP2 : Hid (RowP V2 w6.heap.size (some ⟨gb, ob, none⟩) qb cb zb) := hPr.out.later BV2
                have hC2 : Hid (Own V2 w7.heap.size (.slice ac pc cc) zc) := hCr.out.later BV2
                clear hb BV BV2 XV hBr hPr hCr
                go_wp2
                go_roundw
                case rel => exact ⟨k + 1, by omega, by go_num, hB2, hP2, hC2⟩
                case measure => simp [intOf]; omega
              · go_wp2
                go_ret
                exact ⟨rfl, hBr.out⟩
  | true =>
    go_wp2_with fail
    clear n3 n4 hne hw3 hb1 hb2
    clear Xb2_3
    obtain ⟨ht1, ht2, ht3, ht4, ht5⟩ := fits_tell HF.out
    have HT : Hid (throughF (zs ++ [(x, y)]) 0 = (s, true)) := ht1
    have HO : Hid (∀ o : Int, 0 ≤ o → o < 1499 → o ≠ s → ∃ y', fitsF zs o = ((x, y'), true) ∧ y' ≠ y) := ht5
    clear ht1 ht5
    rw [HL1.out] at ht3 ht4
    obtain ⟨i0, hi, hz0, hz1, hz2⟩ := info_parts Try.infoPart
    obtain ⟨ga, offa, hga, _, _, _⟩ := PO_3.out.at (by omega)
    subst hga
    obtain ⟨Bz, hBz⟩ : ∃ Bz, w3.heap.size = Bz := ⟨_, rfl⟩
    have n0 : w3.cell? ⟨b1, 0, none⟩ = some (.int .i64 x) ∧ w3.cell? ⟨b1, 1, none⟩ = some (.int .i64 y) := ⟨n1, n2⟩
    clear n1 n2
    refine wp_region_held_drew (S := (fun w' => w'.cell? ⟨b1, 0, none⟩ = some (.int .i64 x) ∧ w'.cell? ⟨b1, 1, none⟩ = some (.int .i64 y))) (by kernel_rfl) ?_ (fun hHeld => ?_)
    · exact n0
    refine takeH5 (i := 1) (oi := _) (v := ?_) (d := some 73) rfl (by kernel_rfl) (by kernel_rfl) (by kernel_rfl) (by kernel_rfl) (fun _ _ _ h => h) (Or.inl ⟨by rfl, ?_⟩) (by assumption) ?_
    rotate_left
    · (intro w hSw; (try dsimp only at hSw); go_simp <;> with_reducible rfl)
    try simp only [Act.put, List.setIfInBounds_toArray, List.set_cons_zero, List.set_cons_succ]
    refine takeH5 (i := 3) (oi := _) (v := ?_) (d := some 75) rfl (by kernel_rfl) (by kernel_rfl) (by kernel_rfl) (by kernel_rfl) (fun _ _ _ h => h) (Or.inl ⟨by rfl, ?_⟩) (by assumption) ?_
    rotate_left
    · (intro w hSw; (try dsimp only at hSw); go_simp <;> with_reducible rfl)
    try simp only [Act.put, List.setIfInBounds_toArray, List.set_cons_zero, List.set_cons_succ]
    have BD : Hid (Below w.heap.size w w3.drew) := HB3.out.drew
    have PD : Hid (RowP w3.drew w.heap.size (some ⟨ga, offa, none⟩) q1 c1 zs) := PO_3.out.later (Below.refl _ _).drew
    clear HB3 PO_3 Xb1_3 n0
    generalize w3.drew = D at BD PD hHeld ⊢
    have nD : Hid (D.cell? ⟨b1, 0, none⟩ = some (.int .i64 x) ∧ D.cell? ⟨b1, 1, none⟩ = some (.int .i64 y)) := hHeld
    have B0 : Hid (Below D.heap.size D D) := Below.refl _ _
    have z0 : D.heap.size ≤ D.heap.size := Nat.le_refl _
    refine wpAnyH_ready (rs := [0, 4]) (by kernel_rfl) (by simp) ?_
    refine (AllReadyH.cons (o := _) rfl (fun K hK => ?_) (AllReadyH.cons (o := _) rfl (fun K hK => ?_) AllReadyH.nil))
    · skip
      go_simp
      refine hK.out _ _ ?_ (fun hHeld => ?_)
      · exact ⟨calloc hHeld.1, calloc hHeld.2⟩
      clear hK K
      try simp only [Act.put, List.setIfInBounds_toArray, List.set_cons_zero, List.set_cons_succ]
      have hsz : (D.alloc (.cells #[] 46)).heap.size = D.heap.size + 1 := by simp
      have BY1 : Hid (Below D.heap.size D (D.alloc (.cells #[] 46))) := B0.out.alloc z0 _
      have OY1 : Hid (OwnP (D.alloc (.cells #[] 46)) D.heap.size (.slice (some ⟨D.heap.size, 0, none⟩) 0 0) []) := own_empty _ z0
      clear B0
      generalize D.alloc (.cells #[] 46) = Y1 at hsz BY1 OY1 hHeld ⊢
      have zY1 : D.heap.size ≤ Y1.heap.size := BY1.out.size
      have sY1 : Hid (Y1.heap.size = D.heap.size + 1) := hsz
      clear hsz
      refine wpAnyH_ready (rs := [2, 4]) (by kernel_rfl) (by simp) ?_
      refine (AllReadyH.cons (o := _) rfl (fun K hK => ?_) (AllReadyH.cons (o := _) rfl (fun K hK => ?_) AllReadyH.nil))
      · skip
        rw [if_pos (by rfl)]
        refine wp_append_own _ _ _ 26 rfl D.heap.size 46 i0 (.agg #[.int .i64 0, .int .i64 0]) 2 16 Try.underlying26 hi hz0 hz1 hz2 rfl (by decide) (.slice (some ⟨D.heap.size, 0, none⟩) 0 0) 0 (cellsP []) rfl OY1.out ⟨ga, offa, none⟩ q1 c1 (cellsP zs) rfl (by rw [cellsP_length, HL1.out]) (row_news (PD.out.later BY1.out) (by omega)) (cellsP_one _) (by unfold maxLen; omega) (by omega) zY1 ?_
        intro v1 Y2 hown' hgrow _
        have hgr : Y1.grownBy Y2 (some D.heap.size) := hgrow
        have HO : Hid (OwnP Y2 D.heap.size v1 zs) := by show OwnP _ _ _ _; unfold OwnP; rw [HL1.out]; rw [show cellsP ([] : List (Int × Int)) = [] from rfl, List.nil_append, Nat.zero_add] at hown'; exact hown'
        have BY2 : Hid (Below D.heap.size D Y2) := Below.grown BY1.out hgr zY1 (fun j hj => by simp at hj; omega)
        have zY2 : D.heap.size ≤ Y2.heap.size := BY2.out.size
        obtain ⟨av, cv, hv⟩ := HO.out.shape
        rw [HL1.out] at hv
        subst hv
        have OY2 : Hid (OwnP Y2 D.heap.size (.slice av q1 cv) zs) := HO
        refine hK.out _ _ ?_ (fun hHeld => ?_)
        · exact ⟨cell_keep (S := 0) BY2.out nD.out.1, cell_keep (S := 0) BY2.out nD.out.2⟩
        clear hK K hown' hgrow hgr HO OY1 BY1
        try simp only [Act.put, List.setIfInBounds_toArray, List.set_cons_zero, List.set_cons_succ]
        refine wpAnyH_ready (rs := [4]) (by kernel_rfl) (by simp) ?_
        refine (AllReadyH.cons (o := _) rfl (fun K hK => ?_) AllReadyH.nil)
        go_simp
        refine hK.out _ _ ?_ (fun hHeld => ?_)
        · exact ⟨calloc hHeld.1, calloc hHeld.2⟩
        clear hK K
        try simp only [Act.put, List.setIfInBounds_toArray, List.set_cons_zero, List.set_cons_succ]
        have hsz : (Y2.alloc (.cells #[.int .i64 x, .int .i64 y] 46)).heap.size = Y2.heap.size + 1 := by simp
        have BY3 : Hid (Below D.heap.size D (Y2.alloc (.cells #[.int .i64 x, .int .i64 y] 46))) := BY2.out.alloc zY2 _
        have OY3 : Hid (OwnP (Y2.alloc (.cells #[.int .i64 x, .int .i64 y] 46)) D.heap.size (.slice av q1 cv) zs) := OY2.out.later (balloc _ _)
        have XPY3 : Hid (Bx2 (Y2.alloc (.cells #[.int .i64 x, .int .i64 y] 46)) Y2.heap.size x y) := Bx2.new _ _ _
        clear BY2 OY2
        generalize Y2.alloc (.cells #[.int .i64 x, .int .i64 y] 46) = Y3 at hsz BY3 OY3 XPY3 hHeld ⊢
        have zY3 : D.heap.size ≤ Y3.heap.size := BY3.out.size
        have sY3 : Hid (Y3.heap.size = Y2.heap.size + 1) := hsz
        clear hsz
        refine wpAnyH_ready (rs := [5]) (by kernel_rfl) (by simp) ?_
        refine (AllReadyH.cons (o := _) rfl (fun K hK => ?_) AllReadyH.nil)
        rw [if_pos (by rfl)]
        have hO : Y3.ownsRow D.heap.size 46 2 (.slice av q1 cv) q1 (cellsP zs) := by have h := OY3.out; unfold OwnP at h; rw [HL1.out] at h; exact h
        refine wp_append_own _ _ _ 26 rfl D.heap.size 46 i0 (.agg #[.int .i64 0, .int .i64 0]) 2 16 Try.underlying26 hi hz0 hz1 hz2 rfl (by decide) (.slice av q1 cv) q1 (cellsP zs) rfl hO ⟨Y2.heap.size, 0, none⟩ 1 1 (cellsP [(x, y)]) rfl (by rfl) (two_news XPY3.out) (cellsP_one _) (by unfold maxLen; omega) (by omega) zY3 ?_
        intro v2 Y4 hown' hgrow _
        have HO2 : Hid (OwnP Y4 D.heap.size v2 (zs ++ [(x, y)])) := by show OwnP _ _ _ _; unfold OwnP; rw [List.length_append, HL1.out, cellsP_app]; exact hown'
        have BY4 : Hid (Below D.heap.size D Y4) := Below.grown BY3.out hgrow zY3 (fun j hj => (World.ownsRow.lt hO j hj).1)
        have hln : (zs ++ [(x, y)]).length = q1 + 1 := by rw [List.length_append, HL1.out]; rfl
        obtain ⟨a7, c7, hv⟩ := HO2.out.shape
        rw [hln] at hv
        subst hv
        have OY4 : Hid (OwnP Y4 D.heap.size (.slice a7 (q1 + 1) c7) (zs ++ [(x, y)])) := HO2
        have HLN : Hid ((zs ++ [(x, y)]).length = q1 + 1) := hln
        refine hK.out _ _ ?_ (fun hHeld => ?_)
        · exact ⟨cell_keep (S := 0) BY4.out nD.out.1, cell_keep (S := 0) BY4.out nD.out.2⟩
        clear hK K hown' hgrow hO HO2 hln OY3 XPY3 BY3
        try simp only [Act.put, List.setIfInBounds_toArray, List.set_cons_zero, List.set_cons_succ]
        refine wpAnyH_ready (rs := [6]) (by kernel_rfl) (by simp) ?_
        refine (AllReadyH.cons (o := _) rfl (fun K hK => ?_) AllReadyH.nil)
        go_simp
        refine (implJoin_c a7 (q1 + 1) c7 (zs ++ [(x, y)]) _ HLN.out (by omega) OY4.out.rd'.2 s true HT.out).mono ?_
        rintro e Y5 ⟨rfl, hb⟩
        have BY5 : Hid (Below D.heap.size D Y5) := BY4.out.trans (hb.mono BY4.out.size)
        refine hK.out _ _ ?_ (fun hHeld => ?_)
        · exact ⟨cell_keep (S := 0) BY5.out nD.out.1, cell_keep (S := 0) BY5.out nD.out.2⟩
        clear hK K hb OY4 HLN BY4
        try simp only [Act.put, List.setIfInBounds_toArray, List.set_cons_zero, List.set_cons_succ]
        refine takeH5 (i := 7) (oi := _) (v := ?_) (d := some 71) rfl (by kernel_rfl) (by kernel_rfl) (by kernel_rfl) (by kernel_rfl) (fun _ _ _ h => h) (Or.inl ⟨by rfl, ?_⟩) (by assumption) ?_
        rotate_left
        · (intro w hSw; (try dsimp only at hSw); go_simp <;> with_reducible rfl)
        try simp only [Act.put, List.setIfInBounds_toArray, List.set_cons_zero, List.set_cons_succ]
        refine takeH5 (i := 8) (oi := _) (v := ?_) (d := some 79) rfl (by kernel_rfl) (by kernel_rfl) (by kernel_rfl) (by kernel_rfl) (fun _ _ _ h => h) (Or.inl ⟨by rfl, ?_⟩) (by assumption) ?_
        rotate_left
        · (intro w hSw; (try dsimp only at hSw); go_simp <;> with_reducible rfl)
        try simp only [Act.put, List.setIfInBounds_toArray, List.set_cons_zero, List.set_cons_succ]
        refine takeH5 (i := 9) (oi := _) (v := ?_) (d := some 80) rfl (by kernel_rfl) (by kernel_rfl) (by kernel_rfl) (by kernel_rfl) (fun _ _ _ h => h) (Or.inl ⟨by rfl, ?_⟩) (by assumption) ?_
        rotate_left
        · (intro w hSw; (try dsimp only at hSw); go_simp <;> with_reducible rfl)
        try simp only [Act.put, List.setIfInBounds_toArray, List.set_cons_zero, List.set_cons_succ]
        refine takeH5 (i := 10) (oi := _) (v := ?_) (d := some 11) rfl (by kernel_rfl) (by kernel_rfl) (by kernel_rfl) (by kernel_rfl) (fun _ _ _ h => h) (Or.inl ⟨by rfl, ?_⟩) (by assumption) ?_
        rotate_left
        · (intro w hSw; (try dsimp only at hSw); go_simp <;> with_reducible rfl)
        try simp only [Act.put, List.setIfInBounds_toArray, List.set_cons_zero, List.set_cons_succ]
        refine takeH5 (i := 11) (oi := _) (v := ?_) (d := some 12) rfl (by kernel_rfl) (by kernel_rfl) (by kernel_rfl) (by kernel_rfl) (fun _ _ _ h => h) (Or.inl ⟨by rfl, ?_⟩) (by assumption) ?_
        rotate_left
        · (intro w hSw; (try dsimp only at hSw); go_simp <;> with_reducible rfl)
        try simp only [Act.put, List.setIfInBounds_toArray, List.set_cons_zero, List.set_cons_succ]
        refine wpAnyH_done (by kernel_rfl) ?_ _
        obtain ⟨w9, hw9⟩ : ∃ w9, w9 = Y5 := ⟨_, rfl⟩
        rw [← hw9]
        have HB9 : Hid (Below w.heap.size w w9) := by rw [hw9]; exact BD.out.trans (BY5.out.mono BD.out.size)
        have PO_9 : Hid (RowP w9 w.heap.size (some ⟨ga, offa, none⟩) q1 c1 zs) := by rw [hw9]; exact PD.out.later BY5.out
        have Xb1_9 : Hid (Bx2 w9 b1 x y) := by rw [hw9]; exact hHeld
        clear hw9 hHeld BY5 PD BD nD
        have hss : (s != s) = false := by simp
        go_wp2_with fail
        refine (numberOf_c bo m d _ hm (HM.out.later HB9.out HB9.out.size)).mono ?_
        rintro e w' ⟨z, rfl, hz0, hz1, hw⟩
        subst w'
        obtain ⟨o, ho⟩ : ∃ o, (s + 1 + z % 1498) % 1499 = o := ⟨_, rfl⟩
        have ho0 : 0 ≤ o := by omega
        have ho1 : o < 1499 := by omega
        obtain ⟨y2, hF2, hy2⟩ := HO.out o ho0 ho1 (by omega)
        have HF2 : Hid (fitsF zs o = ((x, y2), true)) := hF2
        have hyy : (y2 == y) = false := by simpa using hy2
        have hxx : (x != x) = false := by simp
        have hm0 : 0 ≤ z % 1498 := by omega
        have hm1 : z % 1498 < 1498 := by omega
        clear hF2 hy2 HO
        go_wp2_with fail
        refine (implFits_c (some ⟨ga, offa, none⟩) q1 c1 zs o _ HL1.out (by omega) PO_9.out.rd x y2 true HF2.out).mono ?_
        rintro e V10 ⟨rfl, hb⟩
        obtain ⟨w10, hw10⟩ : ∃ w10, V10.alloc (.cells #[.int .i64 x, .int .i64 y2] 46) = w10 := ⟨_, rfl⟩
        have hbx : Below w9.heap.size w9 w10 := hb.trans (by rw [← hw10]; exact (balloc _ _).mono hb.size)
        obtain ⟨b3, hb3⟩ : ∃ b3, V10.heap.size = b3 := ⟨_, rfl⟩
        have HB10 : Hid (Below w.heap.size w w10) := HB9.out.trans (hbx.mono HB9.out.size)
        have PO_10 : Hid (RowP w10 w.heap.size (some ⟨ga, offa, none⟩) q1 c1 zs) := PO_9.out.later hbx
        have Xb1_10 : Hid (Bx2 w10 b1 x y) := Xb1_9.out.later hbx
        have Xb3_10 : Hid (Bx2 w10 b3 x y2) := by rw [← hw10, ← hb3]; exact ⟨by simp, by simp⟩
        clear hb hbx HB9 PO_9 Xb1_9
        have hh : V10.heap.size = b3 := hb3
        clear ho hm0 hm1
        have n1 := Xb1_10.out.1
        have n2 := Xb1_10.out.2
        have n3 := Xb3_10.out.1
        have n4 := Xb3_10.out.2
        clear PO_10
        clear Xb1_10
        clear Xb3_10
        go_wp2_with fail
        refine (drawThrough_c bo m d _ hm (HM.out.later HB10.out HB10.out.size)).mono ?_
        rintro e w11 ⟨aa, qa, ca, za, xa, rfl, hqa, hr, hxa, hb⟩
        have HB11 : Hid (Below w.heap.size w w11) := HB10.out.trans (hb.mono HB10.out.size)
        have PA_11 : Hid (RowP w11 w10.heap.size aa qa ca za) := hr
        clear hb HB10
        clear hr n1 n2 n3 n4 hh hb3 hw10
        have HLA : Hid (za.length = qa) := PA_11.out.1
        obtain ⟨va, fa, hFa⟩ : ∃ va fa, throughF za xa = (va, fa) := ⟨_, _, rfl⟩
        have HFA : Hid (throughF za xa = (va, fa)) := hFa
        clear hFa
        go_wp2_with fail
        refine (implThrough_c aa qa ca za xa _ HLA.out (by omega) PA_11.out.rd va fa HFA.out).mono ?_
        rintro e w12 ⟨rfl, hb⟩
        have HB12 : Hid (Below w.heap.size w w12) := HB11.out.trans (hb.mono HB11.out.size)
        have PA_12 : Hid (RowP w12 w10.heap.size aa qa ca za) := PA_11.out.later hb
        clear hb HB11 PA_11
        go_wp2_with fail
        refine (specThrough_c aa qa ca za xa _ HLA.out (by omega) PA_12.out.rd va fa HFA.out).mono ?_
        rintro e w13 ⟨rfl, hb⟩
        have HB13 : Hid (Below w.heap.size w w13) := HB12.out.trans (hb.mono HB12.out.size)
        have PA_13 : Hid (RowP w13 w10.heap.size aa qa ca za) := PA_12.out.later hb
        clear hb HB12 PA_12
        clear PA_13
        go_wp2_with fail
        refine (drawPoly_c bo m d _ hm (HM.out.later HB13.out HB13.out.size)).mono ?_
        rintro e w14 ⟨ab, qb, cb, zb, rfl, hqb, hr, hb⟩
        have HB14 : Hid (Below w.heap.size w w14) := HB13.out.trans (hb.mono HB13.out.size)
        have PB_14 : Hid (RowP w14 w13.heap.size ab qb cb zb) := hr
        clear hb HB13
        clear hr
        have HLB : Hid (zb.length = qb) := PB_14.out.1
        obtain ⟨zc, fc, hFc⟩ : ∃ zc fc, polyThF zb = (zc, fc) := ⟨_, _, rfl⟩
        have HFC : Hid (polyThF zb = (zc, fc)) := hFc
        obtain ⟨pc, hpc⟩ : ∃ pc, zc.length = pc := ⟨_, rfl⟩
        have HPC : Hid (zc.length = pc) := hpc
        have hpc8 : pc ≤ 8 := by rw [← hpc]; exact polyThF_short hFc
        clear hFc hpc
        go_wp2_with fail
        refine (implPoly_c ab qb cb zb _ HLB.out (by omega) PB_14.out.rd zc fc pc HFC.out HPC.out).mono ?_
        rintro e w15 ⟨ac, cc, rfl, ho, hb⟩
        have HB15 : Hid (Below w.heap.size w w15) := HB14.out.trans (hb.mono HB14.out.size)
        have PB_15 : Hid (RowP w15 w13.heap.size ab qb cb zb) := PB_14.out.later hb
        have RC_15 : Hid (Own w15 w14.heap.size (.slice ac pc cc) zc) := ho
        clear hb HB14 PB_14
        clear ho
        go_wp2_with fail
        refine (specPoly_c ab qb cb zb _ HLB.out (by omega) PB_15.out.rd zc fc pc HFC.out HPC.out).mono ?_
        rintro e w16 ⟨ad, cd, rfl, ho, hb⟩
        have HB16 : Hid (Below w.heap.size w w16) := HB15.out.trans (hb.mono HB15.out.size)
        have PB_16 : Hid (RowP w16 w13.heap.size ab qb cb zb) := PB_15.out.later hb
        have RC_16 : Hid (Own w16 w14.heap.size (.slice ac pc cc) zc) := RC_15.out.later hb
        have RD_16 : Hid (Own w16 w15.heap.size (.slice ad pc cd) zc) := ho
        clear hb HB15 PB_15 RC_15
        clear ho
        go_wp2_with fail
        refine (drawWeights_c bo m d _ hm (HM.out.later HB16.out HB16.out.size)).mono ?_
        rintro e w17 ⟨ae, qe, ce, ze, rfl, hqe, hle, ho, hb⟩
        have HB17 : Hid (Below w.heap.size w w17) := HB16.out.trans (hb.mono HB16.out.size)
        have PB_17 : Hid (RowP w17 w13.heap.size ab qb cb zb) := PB_16.out.later hb
        have RC_17 : Hid (Own w17 w14.heap.size (.slice ac pc cc) zc) := RC_16.out.later hb
        have RD_17 : Hid (Own w17 w15.heap.size (.slice ad pc cd) zc) := RD_16.out.later hb
        have PE_17 : Hid (Own w17 w16.heap.size (.slice ae qe ce) ze) := ho
        clear hb HB16 PB_16 RC_16 RD_16
        clear ho
        have HLE : Hid (ze.length = qe) := hle
        obtain ⟨zf, ff, hFf⟩ : ∃ zf ff, weightsF ze = (zf, ff) := ⟨_, _, rfl⟩
        have HFF : Hid (weightsF ze = (zf, ff)) := hFf
        obtain ⟨pf, hpf⟩ : ∃ pf, zf.length = pf := ⟨_, rfl⟩
        have HPF : Hid (zf.length = pf) := hpf
        have hpf8 : pf ≤ 8 := by rw [← hpf]; exact weightsF_short hFf
        clear hFf hpf hle
        go_wp2_with fail
        refine (implWeights_c ae qe ce ze _ HLE.out (by omega) PE_17.out.cap PE_17.out.rd'.2 zf ff pf HFF.out HPF.out).mono ?_
        rintro e w18 ⟨af, cf, rfl, ho, hb⟩
        have HB18 : Hid (Below w.heap.size w w18) := HB17.out.trans (hb.mono HB17.out.size)
        have PB_18 : Hid (RowP w18 w13.heap.size ab qb cb zb) := PB_17.out.later hb
        have RC_18 : Hid (Own w18 w14.heap.size (.slice ac pc cc) zc) := RC_17.out.later hb
        have RD_18 : Hid (Own w18 w15.heap.size (.slice ad pc cd) zc) := RD_17.out.later hb
        have PE_18 : Hid (Own w18 w16.heap.size (.slice ae qe ce) ze) := PE_17.out.later hb
        have RF_18 : Hid (Own w18 w17.heap.size (.slice af pf cf) zf) := ho
        clear hb HB17 PB_17 RC_17 RD_17 PE_17
        clear ho
        go_wp2_with fail
        refine (specWeights_c ae qe ce ze _ HLE.out (by omega) PE_18.out.cap PE_18.out.rd'.2 zf ff pf HFF.out HPF.out).mono ?_
        rintro e w19 ⟨ag, cg, rfl, ho, hb⟩
        have HB19 : Hid (Below w.heap.size w w19) := HB18.out.trans (hb.mono HB18.out.size)
        have PB_19 : Hid (RowP w19 w13.heap.size ab qb cb zb) := PB_18.out.later hb
        have RC_19 : Hid (Own w19 w14.heap.size (.slice ac pc cc) zc) := RC_18.out.later hb
        have RD_19 : Hid (Own w19 w15.heap.size (.slice ad pc cd) zc) := RD_18.out.later hb
        have PE_19 : Hid (Own w19 w16.heap.size (.slice ae qe ce) ze) := PE_18.out.later hb
        have RF_19 : Hid (Own w19 w17.heap.size (.slice af pf cf) zf) := RF_18.out.later hb
        have RG_19 : Hid (Own w19 w18.heap.size (.slice ag pf cg) zf) := ho
        clear hb HB18 PB_18 RC_18 RD_18 PE_18 RF_18
        clear ho
        clear PE_19
        have r1 : (fa != fa) = false := by simp
        have r2 : (va != va) = false := by simp
        have r3 : (fc != fc) = false := by simp
        have r4 : (ff != ff) = false := by simp
        go_wp2_with fail
        refine (sameInts_c ac ad pc pc cc cd zc zc _ HPC.out HPC.out (by omega) (by omega) RC_19.out.rd'.2 RD_19.out.rd'.2).mono ?_
        rw [decide_eq_true rfl]
        rintro e w20 ⟨rfl, hb⟩
        have HB20 : Hid (Below w.heap.size w w20) := HB19.out.trans (hb.mono HB19.out.size)
        have PB_20 : Hid (RowP w20 w13.heap.size ab qb cb zb) := PB_19.out.later hb
        have RC_20 : Hid (Own w20 w14.heap.size (.slice ac pc cc) zc) := RC_19.out.later hb
        have RD_20 : Hid (Own w20 w15.heap.size (.slice ad pc cd) zc) := RD_19.out.later hb
        have RF_20 : Hid (Own w20 w17.heap.size (.slice af pf cf) zf) := RF_19.out.later hb
        have RG_20 : Hid (Own w20 w18.heap.size (.slice ag pf cg) zf) := RG_19.out.later hb
        clear hb HB19 PB_19 RC_19 RD_19 RF_19 RG_19
        clear RD_20
        go_wp2_with fail
        refine (sameInts_c af ag pf pf cf cg zf zf _ HPF.out HPF.out (by omega) (by omega) RF_20.out.rd'.2 RG_20.out.rd'.2).mono ?_
        rw [decide_eq_true rfl]
        rintro e w21 ⟨rfl, hb⟩
        have HB21 : Hid (Below w.heap.size w w21) := HB20.out.trans (hb.mono HB20.out.size)
        have PB_21 : Hid (RowP w21 w13.heap.size ab qb cb zb) := PB_20.out.later hb
        have RC_21 : Hid (Own w21 w14.heap.size (.slice ac pc cc) zc) := RC_20.out.later hb
        have RF_21 : Hid (Own w21 w17.heap.size (.slice af pf cf) zf) := RF_20.out.later hb
        have RG_21 : Hid (Own w21 w18.heap.size (.slice ag pf cg) zf) := RG_20.out.later hb
        clear hb HB20 PB_20 RC_20 RF_20 RG_20
        clear RG_21
        clear r1 r2 r3 r4
        cases ff with
        | false =>
          clear RF_21
          cases fc with
          | false =>
            go_wp2
            go_ret
            exact ⟨rfl, HB21.out⟩
          | true =>
            have T5 : Hid (∀ k, k < qb → valueF zc (zb.getD k (0, 0)).1 = ((zb.getD k (0, 0)).2, true)) := by show _; rw [← HLB.out]; exact poly_tell HFC.out
            go_wp2
            go_loopw [205] (fun i wr => ∃ k : Nat, k ≤ qb ∧ i = .int .i64 k ∧ Hid (Below w.heap.size w wr) ∧ Hid (RowP wr w13.heap.size ab qb cb zb) ∧ Hid (Own wr w14.heap.size (.slice ac pc cc) zc)) (fun i _ => qb - (intOf i).toNat)
            case atStart => exact ⟨0, Nat.zero_le _, rfl, HB21, PB_21, RC_21⟩
            case round =>
              clear HB21 PB_21 RC_21
              obtain ⟨k, hk, rfl, hBr, hPr, hCr⟩ := hrel
              by_cases hlt : k < qb
              · have h0 : (0 : Int) ≤ (k : Int) := by omega
                have hkl : (k : Int) < (qb : Int) := by omega
                obtain ⟨gb, ob, hgb, _, _, hcells⟩ := hPr.out.at (by omega)
                subst hgb
                obtain ⟨⟨d1, d2⟩, _⟩ := hcells k hlt
                have TV := T5.out k hlt
                generalize (zb.getD k (0, 0)).1 = kx at *
                generalize (zb.getD k (0, 0)).2 = ky at *
                have HV : Hid (valueF zc kx = (ky, true)) := TV
                have hkk : (ky != ky) = false := by simp
                clear TV hcells
                obtain ⟨V, hV⟩ : ∃ V, wr.alloc (.cells #[.int .i64 kx, .int .i64 ky] 46) = V := ⟨_, rfl⟩
                have BV : Hid (Below wr.heap.size wr V) := by rw [← hV]; exact balloc _ _
                have XV : Hid (Bx2 V wr.heap.size kx ky) := by rw [← hV]; exact Bx2.new _ _ _
                have x1 := XV.out.1
                go_wp2_with fail
                clear hV d1 d2 x1
                refine (implValue_c ac pc cc zc kx _ HPC.out (by omega) (hCr.out.later BV.out).rd'.2 ky true HV.out).mono ?_
                rintro e V2 ⟨rfl, hb⟩
                have BV2 : Below wr.heap.size wr V2 := BV.out.trans (hb.mono BV.out.size)
                have x2 := (XV.out.later hb).2
                have hB2 : Hid (Below w.heap.size w V2) := hBr.out.trans (BV2.mono hBr.out.size)
                have x2 := (XV.out.later hb).2
                have hB2 : Hid (Below w.heap.size w V2) := hBr.out.trans (BV2.mono hBr.out.size)
                have hP2 : Hid (RowP V2 w13.heap.size (some ⟨gb, ob, none⟩) qb cb zb) := hPr.out.later BV2
                have hC2 : Hid (Own V2 w14.heap.size (.slice ac pc cc) zc) := hCr.out.later BV2
                clear hb BV BV2 XV hBr hPr hCr
                go_wp2
                go_roundw
                case rel => exact ⟨k + 1, by omega, by go_num, hB2, hP2, hC2⟩
                case measure => simp [intOf]; omega
              · go_wp2
                go_ret
                exact ⟨rfl, hBr.out⟩
        | true =>
          obtain ⟨t1, t2, t3⟩ := weights_tell HFF.out
          have T1 : Hid (sumI zf = 1) := t1
          have T2 : Hid (∀ k, k < pf → 0 ≤ zf.getD k 0 ∧ zf.getD k 0 < 1499) := by rw [← HPF.out]; exact t2
          have T3 : Hid (∀ k, k ≤ pf → 0 ≤ sumI (zf.take k) ∧ sumI (zf.take k) < 1499) := by rw [← HPF.out]; exact t3
          clear t1 t2 t3
          have hpf : 0 < pf := by
            rcases Nat.eq_zero_or_pos pf with h0 | h0
            · have h1 := HPF.out
              rw [h0] at h1
              have h2 : zf = [] := List.length_eq_zero_iff.1 h1
              have h3 := T1.out
              rw [h2] at h3
              exact absurd h3 (by decide)
            · exact h0
          obtain ⟨gf, hgf, _⟩ := own_some RF_21.out hpf
          subst hgf
          have CF : Hid (∀ j, j < pf → w21.cell? ⟨gf, j, none⟩ = some (.int .i64 (zf.getD j 0))) := fun j hj => by
            have h := RF_21.out
            rw [← HPF.out] at h
            exact h.cell j (by rw [HPF.out]; exact hj)
          clear RF_21
          have HA : Hid (sumI (zf.take pf) = 1) := by show _ = _; rw [List.take_of_length_le (by rw [HPF.out]; exact Nat.le_refl _)]; exact T1.out
          go_wp2
          go_loop [32, 191] (fun nn i => ∃ k : Nat, k ≤ pf ∧ nn = .int .i64 (sumI (zf.take k)) ∧ i = .int .i64 k) (fun _ i => pf - (intOf i).toNat)
          case atStart => exact ⟨0, Nat.zero_le _, rfl, rfl⟩
          case round =>
            obtain ⟨k, hk, rfl, rfl⟩ := hrel
            by_cases hlt : k < pf
            · have h0 : (0 : Int) ≤ (k : Int) := by omega
              have hkl : (k : Int) < (pf : Int) := by omega
              have cz := CF.out k hlt
              have b1 := T2.out k hlt
              have b2 := T3.out k (by omega)
              have HS : Hid ((sumI (zf.take k) + zf.getD k 0) % 1499 = sumI (zf.take (k + 1))) := (sumI_step (by rw [HPF.out]; exact hlt)).symm
              generalize sumI (zf.take k) = A at *
              generalize zf.getD k 0 = e0 at *
              go_wp2
              go_round
              case rel => exact ⟨k + 1, by omega, by rw [← HS.out], by go_num⟩
              case measure => simp [intOf]; omega
            · obtain rfl : k = pf := by omega
              have ha := HA.out
              rw [ha]
              clear ha HA CF T1 T2 T3
              cases fc with
              | false =>
                go_wp2
                go_ret
                exact ⟨rfl, HB21.out⟩
              | true =>
                have T5 : Hid (∀ k, k < qb → valueF zc (zb.getD k (0, 0)).1 = ((zb.getD k (0, 0)).2, true)) := by show _; rw [← HLB.out]; exact poly_tell HFC.out
                go_wp2
                go_loopw [205] (fun i wr => ∃ k : Nat, k ≤ qb ∧ i = .int .i64 k ∧ Hid (Below w.heap.size w wr) ∧ Hid (RowP wr w13.heap.size ab qb cb zb) ∧ Hid (Own wr w14.heap.size (.slice ac pc cc) zc)) (fun i _ => qb - (intOf i).toNat)
                case atStart => exact ⟨0, Nat.zero_le _, rfl, HB21, PB_21, RC_21⟩
                case round =>
                  clear HB21 PB_21 RC_21
                  obtain ⟨k, hk, rfl, hBr, hPr, hCr⟩ := hrel
                  by_cases hlt : k < qb
                  · have h0 : (0 : Int) ≤ (k : Int) := by omega
                    have hkl : (k : Int) < (qb : Int) := by omega
                    obtain ⟨gb, ob, hgb, _, _, hcells⟩ := hPr.out.at (by omega)
                    subst hgb
                    obtain ⟨⟨d1, d2⟩, _⟩ := hcells k hlt
                    have TV := T5.out k hlt
                    generalize (zb.getD k (0, 0)).1 = kx at *
                    generalize (zb.getD k (0, 0)).2 = ky at *
                    have HV : Hid (valueF zc kx = (ky, true)) := TV
                    have hkk : (ky != ky) = false := by simp
                    clear TV hcells
                    obtain ⟨V, hV⟩ : ∃ V, wr.alloc (.cells #[.int .i64 kx, .int .i64 ky] 46) = V := ⟨_, rfl⟩
                    have BV : Hid (Below wr.heap.size wr V) := by rw [← hV]; exact balloc _ _
                    have XV : Hid (Bx2 V wr.heap.size kx ky) := by rw [← hV]; exact Bx2.new _ _ _
                    have x1 := XV.out.1
                    go_wp2_with fail
                    clear hV d1 d2 x1
                    refine (implValue_c ac pc cc zc kx _ HPC.out (by omega) (hCr.out.later BV.out).rd'.2 ky true HV.out).mono ?_
                    rintro e V2 ⟨rfl, hb⟩
                    have BV2 : Below wr.heap.size wr V2 := BV.out.trans (hb.mono BV.out.size)
                    have x2 := (XV.out.later hb).2
                    have hB2 : Hid (Below w.heap.size w V2) := hBr.out.trans (BV2.mono hBr.out.size)
                    have x2 := (XV.out.later hb).2
                    have hB2 : Hid (Below w.heap.size w V2) := hBr.out.trans (BV2.mono hBr.out.size)
                    have hP2 : Hid (RowP V2 w13.heap.size (some ⟨gb, ob, none⟩) qb cb zb) := hPr.out.later BV2
                    have hC2 : Hid (Own V2 w14.heap.size (.slice ac pc cc) zc) := hCr.out.later BV2
                    clear hb BV BV2 XV hBr hPr hCr
                    go_wp2
                    go_roundw
                    case rel => exact ⟨k + 1, by omega, by go_num, hB2, hP2, hC2⟩
                    case measure => simp [intOf]; omega
                  · go_wp2
                    go_ret
                    exact ⟨rfl, hBr.out⟩
      · skip
        go_simp
        refine hK.out _ _ ?_ (fun hHeld => ?_)
        · exact ⟨calloc hHeld.1, calloc hHeld.2⟩
        clear hK K
        try simp only [Act.put, List.setIfInBounds_toArray, List.set_cons_zero, List.set_cons_succ]
        have hsz : (Y1.alloc (.cells #[.int .i64 x, .int .i64 y] 46)).heap.size = Y1.heap.size + 1 := by simp
        have BY2 : Hid (Below D.heap.size D (Y1.alloc (.cells #[.int .i64 x, .int .i64 y] 46))) := BY1.out.alloc zY1 _
        have OY2 : Hid (OwnP (Y1.alloc (.cells #[.int .i64 x, .int .i64 y] 46)) D.heap.size (.slice (some ⟨D.heap.size, 0, none⟩) 0 0) []) := OY1.out.later (balloc _ _)
        have XPY2 : Hid (Bx2 (Y1.alloc (.cells #[.int .i64 x, .int .i64 y] 46)) Y1.heap.size x y) := Bx2.new _ _ _
        clear BY1 OY1
        generalize Y1.alloc (.cells #[.int .i64 x, .int .i64 y] 46) = Y2 at hsz BY2 OY2 XPY2 hHeld ⊢
        have zY2 : D.heap.size ≤ Y2.heap.size := BY2.out.size
        have sY2 : Hid (Y2.heap.size = Y1.heap.size + 1) := hsz
        clear hsz
        refine wpAnyH_ready (rs := [2]) (by kernel_rfl) (by simp) ?_
        refine (AllReadyH.cons (o := _) rfl (fun K hK => ?_) AllReadyH.nil)
        rw [if_pos (by rfl)]
        refine wp_append_own _ _ _ 26 rfl D.heap.size 46 i0 (.agg #[.int .i64 0, .int .i64 0]) 2 16 Try.underlying26 hi hz0 hz1 hz2 rfl (by decide) (.slice (some ⟨D.heap.size, 0, none⟩) 0 0) 0 (cellsP []) rfl OY2.out ⟨ga, offa, none⟩ q1 c1 (cellsP zs) rfl (by rw [cellsP_length, HL1.out]) (row_news (PD.out.later BY2.out) (by omega)) (cellsP_one _) (by unfold maxLen; omega) (by omega) zY2 ?_
        intro v1 Y3 hown' hgrow _
        have hgr : Y2.grownBy Y3 (some D.heap.size) := hgrow
        have HO : Hid (OwnP Y3 D.heap.size v1 zs) := by show OwnP _ _ _ _; unfold OwnP; rw [HL1.out]; rw [show cellsP ([] : List (Int × Int)) = [] from rfl, List.nil_append, Nat.zero_add] at hown'; exact hown'
        have BY3 : Hid (Below D.heap.size D Y3) := Below.grown BY2.out hgr zY2 (fun j hj => by simp at hj; omega)
        have zY3 : D.heap.size ≤ Y3.heap.size := BY3.out.size
        have XPY3 : Hid (Bx2 Y3 Y1.heap.size x y) := XPY2.out.grown hgr (by have := sY1.out; have := sY2.out; omega)
        obtain ⟨av, cv, hv⟩ := HO.out.shape
        rw [HL1.out] at hv
        subst hv
        have OY3 : Hid (OwnP Y3 D.heap.size (.slice av q1 cv) zs) := HO
        refine hK.out _ _ ?_ (fun hHeld => ?_)
        · exact ⟨cell_keep (S := 0) BY3.out nD.out.1, cell_keep (S := 0) BY3.out nD.out.2⟩
        clear hK K hown' hgrow hgr HO OY2 BY2 XPY2
        try simp only [Act.put, List.setIfInBounds_toArray, List.set_cons_zero, List.set_cons_succ]
        refine wpAnyH_ready (rs := [5]) (by kernel_rfl) (by simp) ?_
        refine (AllReadyH.cons (o := _) rfl (fun K hK => ?_) AllReadyH.nil)
        rw [if_pos (by rfl)]
        have hO : Y3.ownsRow D.heap.size 46 2 (.slice av q1 cv) q1 (cellsP zs) := by have h := OY3.out; unfold OwnP at h; rw [HL1.out] at h; exact h
        refine wp_append_own _ _ _ 26 rfl D.heap.size 46 i0 (.agg #[.int .i64 0, .int .i64 0]) 2 16 Try.underlying26 hi hz0 hz1 hz2 rfl (by decide) (.slice av q1 cv) q1 (cellsP zs) rfl hO ⟨Y1.heap.size, 0, none⟩ 1 1 (cellsP [(x, y)]) rfl (by rfl) (two_news XPY3.out) (cellsP_one _) (by unfold maxLen; omega) (by omega) zY3 ?_
        intro v2 Y4 hown' hgrow _
        have HO2 : Hid (OwnP Y4 D.heap.size v2 (zs ++ [(x, y)])) := by show OwnP _ _ _ _; unfold OwnP; rw [List.length_append, HL1.out, cellsP_app]; exact hown'
        have BY4 : Hid (Below D.heap.size D Y4) := Below.grown BY3.out hgrow zY3 (fun j hj => (World.ownsRow.lt hO j hj).1)
        have hln : (zs ++ [(x, y)]).length = q1 + 1 := by rw [List.length_append, HL1.out]; rfl
        obtain ⟨a7, c7, hv⟩ := HO2.out.shape
        rw [hln] at hv
        subst hv
        have OY4 : Hid (OwnP Y4 D.heap.size (.slice a7 (q1 + 1) c7) (zs ++ [(x, y)])) := HO2
        have HLN : Hid ((zs ++ [(x, y)]).length = q1 + 1) := hln
        refine hK.out _ _ ?_ (fun hHeld => ?_)
        · exact ⟨cell_keep (S := 0) BY4.out nD.out.1, cell_keep (S := 0) BY4.out nD.out.2⟩
        clear hK K hown' hgrow hO HO2 hln OY3 XPY3 BY3
        try simp only [Act.put, List.setIfInBounds_toArray, List.set_cons_zero, List.set_cons_succ]
        refine wpAnyH_ready (rs := [6]) (by kernel_rfl) (by simp) ?_
        refine (AllReadyH.cons (o := _) rfl (fun K hK => ?_) AllReadyH.nil)
        go_simp
        refine (implJoin_c a7 (q1 + 1) c7 (zs ++ [(x, y)]) _ HLN.out (by omega) OY4.out.rd'.2 s true HT.out).mono ?_
        rintro e Y5 ⟨rfl, hb⟩
        have BY5 : Hid (Below D.heap.size D Y5) := BY4.out.trans (hb.mono BY4.out.size)
        refine hK.out _ _ ?_ (fun hHeld => ?_)
        · exact ⟨cell_keep (S := 0) BY5.out nD.out.1, cell_keep (S := 0) BY5.out nD.out.2⟩
        clear hK K hb OY4 HLN BY4
        try simp only [Act.put, List.setIfInBounds_toArray, List.set_cons_zero, List.set_cons_succ]
        refine takeH5 (i := 7) (oi := _) (v := ?_) (d := some 71) rfl (by kernel_rfl) (by kernel_rfl) (by kernel_rfl) (by kernel_rfl) (fun _ _ _ h => h) (Or.inl ⟨by rfl, ?_⟩) (by assumption) ?_
        rotate_left
        · (intro w hSw; (try dsimp only at hSw); go_simp <;> with_reducible rfl)
        try simp only [Act.put, List.setIfInBounds_toArray, List.set_cons_zero, List.set_cons_succ]
        refine takeH5 (i := 8) (oi := _) (v := ?_) (d := some 79) rfl (by kernel_rfl) (by kernel_rfl) (by kernel_rfl) (by kernel_rfl) (fun _ _ _ h => h) (Or.inl ⟨by rfl, ?_⟩) (by assumption) ?_
        rotate_left
        · (intro w hSw; (try dsimp only at hSw); go_simp <;> with_reducible rfl)
        try simp only [Act.put, List.setIfInBounds_toArray, List.set_cons_zero, List.set_cons_succ]
        refine takeH5 (i := 9) (oi := _) (v := ?_) (d := some 80) rfl (by kernel_rfl) (by kernel_rfl) (by kernel_rfl) (by kernel_rfl) (fun _ _ _ h => h) (Or.inl ⟨by rfl, ?_⟩) (by assumption) ?_
        rotate_left
        · (intro w hSw; (try dsimp only at hSw); go_simp <;> with_reducible rfl)
        try simp only [Act.put, List.setIfInBounds_toArray, List.set_cons_zero, List.set_cons_succ]
        refine takeH5 (i := 10) (oi := _) (v := ?_) (d := some 11) rfl (by kernel_rfl) (by kernel_rfl) (by kernel_rfl) (by kernel_rfl) (fun _ _ _ h => h) (Or.inl ⟨by rfl, ?_⟩) (by assumption) ?_
        rotate_left
        · (intro w hSw; (try dsimp only at hSw); go_simp <;> with_reducible rfl)
        try simp only [Act.put, List.setIfInBounds_toArray, List.set_cons_zero, List.set_cons_succ]
        refine takeH5 (i := 11) (oi := _) (v := ?_) (d := some 12) rfl (by kernel_rfl) (by kernel_rfl) (by kernel_rfl) (by kernel_rfl) (fun _ _ _ h => h) (Or.inl ⟨by rfl, ?_⟩) (by assumption) ?_
        rotate_left
        · (intro w hSw; (try dsimp only at hSw); go_simp <;> with_reducible rfl)
        try simp only [Act.put, List.setIfInBounds_toArray, List.set_cons_zero, List.set_cons_succ]
        refine wpAnyH_done (by kernel_rfl) ?_ _
        obtain ⟨w9, hw9⟩ : ∃ w9, w9 = Y5 := ⟨_, rfl⟩
        rw [← hw9]
        have HB9 : Hid (Below w.heap.size w w9) := by rw [hw9]; exact BD.out.trans (BY5.out.mono BD.out.size)
        have PO_9 : Hid (RowP w9 w.heap.size (some ⟨ga, offa, none⟩) q1 c1 zs) := by rw [hw9]; exact PD.out.later BY5.out
        have Xb1_9 : Hid (Bx2 w9 b1 x y) := by rw [hw9]; exact hHeld
        clear hw9 hHeld BY5 PD BD nD
        have hss : (s != s) = false := by simp
        go_wp2_with fail
        refine (numberOf_c bo m d _ hm (HM.out.later HB9.out HB9.out.size)).mono ?_
        rintro e w' ⟨z, rfl, hz0, hz1, hw⟩
        subst w'
        obtain ⟨o, ho⟩ : ∃ o, (s + 1 + z % 1498) % 1499 = o := ⟨_, rfl⟩
        have ho0 : 0 ≤ o := by omega
        have ho1 : o < 1499 := by omega
        obtain ⟨y2, hF2, hy2⟩ := HO.out o ho0 ho1 (by omega)
        have HF2 : Hid (fitsF zs o = ((x, y2), true)) := hF2
        have hyy : (y2 == y) = false := by simpa using hy2
        have hxx : (x != x) = false := by simp
        have hm0 : 0 ≤ z % 1498 := by omega
        have hm1 : z % 1498 < 1498 := by omega
        clear hF2 hy2 HO
        go_wp2_with fail
        refine (implFits_c (some ⟨ga, offa, none⟩) q1 c1 zs o _ HL1.out (by omega) PO_9.out.rd x y2 true HF2.out).mono ?_
        rintro e V10 ⟨rfl, hb⟩
        obtain ⟨w10, hw10⟩ : ∃ w10, V10.alloc (.cells #[.int .i64 x, .int .i64 y2] 46) = w10 := ⟨_, rfl⟩
        have hbx : Below w9.heap.size w9 w10 := hb.trans (by rw [← hw10]; exact (balloc _ _).mono hb.size)
        obtain ⟨b3, hb3⟩ : ∃ b3, V10.heap.size = b3 := ⟨_, rfl⟩
        have HB10 : Hid (Below w.heap.size w w10) := HB9.out.trans (hbx.mono HB9.out.size)
        have PO_10 : Hid (RowP w10 w.heap.size (some ⟨ga, offa, none⟩) q1 c1 zs) := PO_9.out.later hbx
        have Xb1_10 : Hid (Bx2 w10 b1 x y) := Xb1_9.out.later hbx
        have Xb3_10 : Hid (Bx2 w10 b3 x y2) := by rw [← hw10, ← hb3]; exact ⟨by simp, by simp⟩
        clear hb hbx HB9 PO_9 Xb1_9
        have hh : V10.heap.size = b3 := hb3
        clear ho hm0 hm1
        have n1 := Xb1_10.out.1
        have n2 := Xb1_10.out.2
        have n3 := Xb3_10.out.1
        have n4 := Xb3_10.out.2
        clear PO_10
        clear Xb1_10
        clear Xb3_10
        go_wp2_with fail
        refine (drawThrough_c bo m d _ hm (HM.out.later HB10.out HB10.out.size)).mono ?_
        rintro e w11 ⟨aa, qa, ca, za, xa, rfl, hqa, hr, hxa, hb⟩
        have HB11 : Hid (Below w.heap.size w w11) := HB10.out.trans (hb.mono HB10.out.size)
        have PA_11 : Hid (RowP w11 w10.heap.size aa qa ca za) := hr
        clear hb HB10
        clear hr n1 n2 n3 n4 hh hb3 hw10
        have HLA : Hid (za.length = qa) := PA_11.out.1
        obtain ⟨va, fa, hFa⟩ : ∃ va fa, throughF za xa = (va, fa) := ⟨_, _, rfl⟩
        have HFA : Hid (throughF za xa = (va, fa)) := hFa
        clear hFa
        go_wp2_with fail
        refine (implThrough_c aa qa ca za xa _ HLA.out (by omega) PA_11.out.rd va fa HFA.out).mono ?_
        rintro e w12 ⟨rfl, hb⟩
        have HB12 : Hid (Below w.heap.size w w12) := HB11.out.trans (hb.mono HB11.out.size)
        have PA_12 : Hid (RowP w12 w10.heap.size aa qa ca za) := PA_11.out.later hb
        clear hb HB11 PA_11
        go_wp2_with fail
        refine (specThrough_c aa qa ca za xa _ HLA.out (by omega) PA_12.out.rd va fa HFA.out).mono ?_
        rintro e w13 ⟨rfl, hb⟩
        have HB13 : Hid (Below w.heap.size w w13) := HB12.out.trans (hb.mono HB12.out.size)
        have PA_13 : Hid (RowP w13 w10.heap.size aa qa ca za) := PA_12.out.later hb
        clear hb HB12 PA_12
        clear PA_13
        go_wp2_with fail
        refine (drawPoly_c bo m d _ hm (HM.out.later HB13.out HB13.out.size)).mono ?_
        rintro e w14 ⟨ab, qb, cb, zb, rfl, hqb, hr, hb⟩
        have HB14 : Hid (Below w.heap.size w w14) := HB13.out.trans (hb.mono HB13.out.size)
        have PB_14 : Hid (RowP w14 w13.heap.size ab qb cb zb) := hr
        clear hb HB13
        clear hr
        have HLB : Hid (zb.length = qb) := PB_14.out.1
        obtain ⟨zc, fc, hFc⟩ : ∃ zc fc, polyThF zb = (zc, fc) := ⟨_, _, rfl⟩
        have HFC : Hid (polyThF zb = (zc, fc)) := hFc
        obtain ⟨pc, hpc⟩ : ∃ pc, zc.length = pc := ⟨_, rfl⟩
        have HPC : Hid (zc.length = pc) := hpc
        have hpc8 : pc ≤ 8 := by rw [← hpc]; exact polyThF_short hFc
        clear hFc hpc
        go_wp2_with fail
        refine (implPoly_c ab qb cb zb _ HLB.out (by omega) PB_14.out.rd zc fc pc HFC.out HPC.out).mono ?_
        rintro e w15 ⟨ac, cc, rfl, ho, hb⟩
        have HB15 : Hid (Below w.heap.size w w15) := HB14.out.trans (hb.mono HB14.out.size)
        have PB_15 : Hid (RowP w15 w13.heap.size ab qb cb zb) := PB_14.out.later hb
        have RC_15 : Hid (Own w15 w14.heap.size (.slice ac pc cc) zc) := ho
        clear hb HB14 PB_14
        clear ho
        go_wp2_with fail
        refine (specPoly_c ab qb cb zb _ HLB.out (by omega) PB_15.out.rd zc fc pc HFC.out HPC.out).mono ?_
        rintro e w16 ⟨ad, cd, rfl, ho, hb⟩
        have HB16 : Hid (Below w.heap.size w w16) := HB15.out.trans (hb.mono HB15.out.size)
        have PB_16 : Hid (RowP w16 w13.heap.size ab qb cb zb) := PB_15.out.later hb
        have RC_16 : Hid (Own w16 w14.heap.size (.slice ac pc cc) zc) := RC_15.out.later hb
        have RD_16 : Hid (Own w16 w15.heap.size (.slice ad pc cd) zc) := ho
        clear hb HB15 PB_15 RC_15
        clear ho
        go_wp2_with fail
        refine (drawWeights_c bo m d _ hm (HM.out.later HB16.out HB16.out.size)).mono ?_
        rintro e w17 ⟨ae, qe, ce, ze, rfl, hqe, hle, ho, hb⟩
        have HB17 : Hid (Below w.heap.size w w17) := HB16.out.trans (hb.mono HB16.out.size)
        have PB_17 : Hid (RowP w17 w13.heap.size ab qb cb zb) := PB_16.out.later hb
        have RC_17 : Hid (Own w17 w14.heap.size (.slice ac pc cc) zc) := RC_16.out.later hb
        have RD_17 : Hid (Own w17 w15.heap.size (.slice ad pc cd) zc) := RD_16.out.later hb
        have PE_17 : Hid (Own w17 w16.heap.size (.slice ae qe ce) ze) := ho
        clear hb HB16 PB_16 RC_16 RD_16
        clear ho
        have HLE : Hid (ze.length = qe) := hle
        obtain ⟨zf, ff, hFf⟩ : ∃ zf ff, weightsF ze = (zf, ff) := ⟨_, _, rfl⟩
        have HFF : Hid (weightsF ze = (zf, ff)) := hFf
        obtain ⟨pf, hpf⟩ : ∃ pf, zf.length = pf := ⟨_, rfl⟩
        have HPF : Hid (zf.length = pf) := hpf
        have hpf8 : pf ≤ 8 := by rw [← hpf]; exact weightsF_short hFf
        clear hFf hpf hle
        go_wp2_with fail
        refine (implWeights_c ae qe ce ze _ HLE.out (by omega) PE_17.out.cap PE_17.out.rd'.2 zf ff pf HFF.out HPF.out).mono ?_
        rintro e w18 ⟨af, cf, rfl, ho, hb⟩
        have HB18 : Hid (Below w.heap.size w w18) := HB17.out.trans (hb.mono HB17.out.size)
        have PB_18 : Hid (RowP w18 w13.heap.size ab qb cb zb) := PB_17.out.later hb
        have RC_18 : Hid (Own w18 w14.heap.size (.slice ac pc cc) zc) := RC_17.out.later hb
        have RD_18 : Hid (Own w18 w15.heap.size (.slice ad pc cd) zc) := RD_17.out.later hb
        have PE_18 : Hid (Own w18 w16.heap.size (.slice ae qe ce) ze) := PE_17.out.later hb
        have RF_18 : Hid (Own w18 w17.heap.size (.slice af pf cf) zf) := ho
        clear hb HB17 PB_17 RC_17 RD_17 PE_17
        clear ho
        go_wp2_with fail
        refine (specWeights_c ae qe ce ze _ HLE.out (by omega) PE_18.out.cap PE_18.out.rd'.2 zf ff pf HFF.out HPF.out).mono ?_
        rintro e w19 ⟨ag, cg, rfl, ho, hb⟩
        have HB19 : Hid (Below w.heap.size w w19) := HB18.out.trans (hb.mono HB18.out.size)
        have PB_19 : Hid (RowP w19 w13.heap.size ab qb cb zb) := PB_18.out.later hb
        have RC_19 : Hid (Own w19 w14.heap.size (.slice ac pc cc) zc) := RC_18.out.later hb
        have RD_19 : Hid (Own w19 w15.heap.size (.slice ad pc cd) zc) := RD_18.out.later hb
        have PE_19 : Hid (Own w19 w16.heap.size (.slice ae qe ce) ze) := PE_18.out.later hb
        have RF_19 : Hid (Own w19 w17.heap.size (.slice af pf cf) zf) := RF_18.out.later hb
        have RG_19 : Hid (Own w19 w18.heap.size (.slice ag pf cg) zf) := ho
        clear hb HB18 PB_18 RC_18 RD_18 PE_18 RF_18
        clear ho
        clear PE_19
        have r1 : (fa != fa) = false := by simp
        have r2 : (va != va) = false := by simp
        have r3 : (fc != fc) = false := by simp
        have r4 : (ff != ff) = false := by simp
        go_wp2_with fail
        refine (sameInts_c ac ad pc pc cc cd zc zc _ HPC.out HPC.out (by omega) (by omega) RC_19.out.rd'.2 RD_19.out.rd'.2).mono ?_
        rw [decide_eq_true rfl]
        rintro e w20 ⟨rfl, hb⟩
        have HB20 : Hid (Below w.heap.size w w20) := HB19.out.trans (hb.mono HB19.out.size)
        have PB_20 : Hid (RowP w20 w13.heap.size ab qb cb zb) := PB_19.out.later hb
        have RC_20 : Hid (Own w20 w14.heap.size (.slice ac pc cc) zc) := RC_19.out.later hb
        have RD_20 : Hid (Own w20 w15.heap.size (.slice ad pc cd) zc) := RD_19.out.later hb
        have RF_20 : Hid (Own w20 w17.heap.size (.slice af pf cf) zf) := RF_19.out.later hb
        have RG_20 : Hid (Own w20 w18.heap.size (.slice ag pf cg) zf) := RG_19.out.later hb
        clear hb HB19 PB_19 RC_19 RD_19 RF_19 RG_19
        clear RD_20
        go_wp2_with fail
        refine (sameInts_c af ag pf pf cf cg zf zf _ HPF.out HPF.out (by omega) (by omega) RF_20.out.rd'.2 RG_20.out.rd'.2).mono ?_
        rw [decide_eq_true rfl]
        rintro e w21 ⟨rfl, hb⟩
        have HB21 : Hid (Below w.heap.size w w21) := HB20.out.trans (hb.mono HB20.out.size)
        have PB_21 : Hid (RowP w21 w13.heap.size ab qb cb zb) := PB_20.out.later hb
        have RC_21 : Hid (Own w21 w14.heap.size (.slice ac pc cc) zc) := RC_20.out.later hb
        have RF_21 : Hid (Own w21 w17.heap.size (.slice af pf cf) zf) := RF_20.out.later hb
        have RG_21 : Hid (Own w21 w18.heap.size (.slice ag pf cg) zf) := RG_20.out.later hb
        clear hb HB20 PB_20 RC_20 RF_20 RG_20
        clear RG_21
        clear r1 r2 r3 r4
        cases ff with
        | false =>
          clear RF_21
          cases fc with
          | false =>
            go_wp2
            go_ret
            exact ⟨rfl, HB21.out⟩
          | true =>
            have T5 : Hid (∀ k, k < qb → valueF zc (zb.getD k (0, 0)).1 = ((zb.getD k (0, 0)).2, true)) := by show _; rw [← HLB.out]; exact poly_tell HFC.out
            go_wp2
            go_loopw [205] (fun i wr => ∃ k : Nat, k ≤ qb ∧ i = .int .i64 k ∧ Hid (Below w.heap.size w wr) ∧ Hid (RowP wr w13.heap.size ab qb cb zb) ∧ Hid (Own wr w14.heap.size (.slice ac pc cc) zc)) (fun i _ => qb - (intOf i).toNat)
            case atStart => exact ⟨0, Nat.zero_le _, rfl, HB21, PB_21, RC_21⟩
            case round =>
              clear HB21 PB_21 RC_21
              obtain ⟨k, hk, rfl, hBr, hPr, hCr⟩ := hrel
              by_cases hlt : k < qb
              · have h0 : (0 : Int) ≤ (k : Int) := by omega
                have hkl : (k : Int) < (qb : Int) := by omega
                obtain ⟨gb, ob, hgb, _, _, hcells⟩ := hPr.out.at (by omega)
                subst hgb
                obtain ⟨⟨d1, d2⟩, _⟩ := hcells k hlt
                have TV := T5.out k hlt
                generalize (zb.getD k (0, 0)).1 = kx at *
                generalize (zb.getD k (0, 0)).2 = ky at *
                have HV : Hid (valueF zc kx = (ky, true)) := TV
                have hkk : (ky != ky) = false := by simp
                clear TV hcells
                obtain ⟨V, hV⟩ : ∃ V, wr.alloc (.cells #[.int .i64 kx, .int .i64 ky] 46) = V := ⟨_, rfl⟩
                have BV : Hid (Below wr.heap.size wr V) := by rw [← hV]; exact balloc _ _
                have XV : Hid (Bx2 V wr.heap.size kx ky) := by rw [← hV]; exact Bx2.new _ _ _
                have x1 := XV.out.1
                go_wp2_with fail
                clear hV d1 d2 x1
                refine (implValue_c ac pc cc zc kx _ HPC.out (by omega) (hCr.out.later BV.out).rd'.2 ky true HV.out).mono ?_
                rintro e V2 ⟨rfl, hb⟩
                have BV2 : Below wr.heap.size wr V2 := BV.out.trans (hb.mono BV.out.size)
                have x2 := (XV.out.later hb).2
                have hB2 : Hid (Below w.heap.size w V2) := hBr.out.trans (BV2.mono hBr.out.size)
                have x2 := (XV.out.later hb).2
                have hB2 : Hid (Below w.heap.size w V2) := hBr.out.trans (BV2.mono hBr.out.size)
                have hP2 : Hid (RowP V2 w13.heap.size (some ⟨gb, ob, none⟩) qb cb zb) := hPr.out.later BV2
                have hC2 : Hid (Own V2 w14.heap.size (.slice ac pc cc) zc) := hCr.out.later BV2
                clear hb BV BV2 XV hBr hPr hCr
                go_wp2
                go_roundw
                case rel => exact ⟨k + 1, by omega, by go_num, hB2, hP2, hC2⟩
                case measure => simp [intOf]; omega
              · go_wp2
                go_ret
                exact ⟨rfl, hBr.out⟩
        | true =>
          obtain ⟨t1, t2, t3⟩ := weights_tell HFF.out
          have T1 : Hid (sumI zf = 1) := t1
          have T2 : Hid (∀ k, k < pf → 0 ≤ zf.getD k 0 ∧ zf.getD k 0 < 1499) := by rw [← HPF.out]; exact t2
          have T3 : Hid (∀ k, k ≤ pf → 0 ≤ sumI (zf.take k) ∧ sumI (zf.take k) < 1499) := by rw [← HPF.out]; exact t3
          clear t1 t2 t3
          have hpf : 0 < pf := by
            rcases Nat.eq_zero_or_pos pf with h0 | h0
            · have h1 := HPF.out
              rw [h0] at h1
              have h2 : zf = [] := List.length_eq_zero_iff.1 h1
              have h3 := T1.out
              rw [h2] at h3
              exact absurd h3 (by decide)
            · exact h0
          obtain ⟨gf, hgf, _⟩ := own_some RF_21.out hpf
          subst hgf
          have CF : Hid (∀ j, j < pf → w21.cell? ⟨gf, j, none⟩ = some (.int .i64 (zf.getD j 0))) := fun j hj => by
            have h := RF_21.out
            rw [← HPF.out] at h
            exact h.cell j (by rw [HPF.out]; exact hj)
          clear RF_21
          have HA : Hid (sumI (zf.take pf) = 1) := by show _ = _; rw [List.take_of_length_le (by rw [HPF.out]; exact Nat.le_refl _)]; exact T1.out
          go_wp2
          go_loop [32, 191] (fun nn i => ∃ k : Nat, k ≤ pf ∧ nn = .int .i64 (sumI (zf.take k)) ∧ i = .int .i64 k) (fun _ i => pf - (intOf i).toNat)
          case atStart => exact ⟨0, Nat.zero_le _, rfl, rfl⟩
          case round =>
            obtain ⟨k, hk, rfl, rfl⟩ := hrel
            by_cases hlt : k < pf
            · have h0 : (0 : Int) ≤ (k : Int) := by omega
              have hkl : (k : Int) < (pf : Int) := by omega
              have cz := CF.out k hlt
              have b1 := T2.out k hlt
              have b2 := T3.out k (by omega)
              have HS : Hid ((sumI (zf.take k) + zf.getD k 0) % 1499 = sumI (zf.take (k + 1))) := (sumI_step (by rw [HPF.out]; exact hlt)).symm
              generalize sumI (zf.take k) = A at *
              generalize zf.getD k 0 = e0 at *
              go_wp2
              go_round
              case rel => exact ⟨k + 1, by omega, by rw [← HS.out], by go_num⟩
              case measure => simp [intOf]; omega
            · obtain rfl : k = pf := by omega
              have ha := HA.out
              rw [ha]
              clear ha HA CF T1 T2 T3
              cases fc with
              | false =>
                go_wp2
                go_ret
                exact ⟨rfl, HB21.out⟩
              | true =>
                have T5 : Hid (∀ k, k < qb → valueF zc (zb.getD k (0, 0)).1 = ((zb.getD k (0, 0)).2, true)) := by show _; rw [← HLB.out]; exact poly_tell HFC.out
                go_wp2
                go_loopw [205] (fun i wr => ∃ k : Nat, k ≤ qb ∧ i = .int .i64 k ∧ Hid (Below w.heap.size w wr) ∧ Hid (RowP wr w13.heap.size ab qb cb zb) ∧ Hid (Own wr w14.heap.size (.slice ac pc cc) zc)) (fun i _ => qb - (intOf i).toNat)
                case atStart => exact ⟨0, Nat.zero_le _, rfl, HB21, PB_21, RC_21⟩
                case round =>
                  clear HB21 PB_21 RC_21
                  obtain ⟨k, hk, rfl, hBr, hPr, hCr⟩ := hrel
                  by_cases hlt : k < qb
                  · have h0 : (0 : Int) ≤ (k : Int) := by omega
                    have hkl : (k : Int) < (qb : Int) := by omega
                    obtain ⟨gb, ob, hgb, _, _, hcells⟩ := hPr.out.at (by omega)
                    subst hgb
                    obtain ⟨⟨d1, d2⟩, _⟩ := hcells k hlt
                    have TV := T5.out k hlt
                    generalize (zb.getD k (0, 0)).1 = kx at *
                    generalize (zb.getD k (0, 0)).2 = ky at *
                    have HV : Hid (valueF zc kx = (ky, true)) := TV
                    have hkk : (ky != ky) = false := by simp
                    clear TV hcells
                    obtain ⟨V, hV⟩ : ∃ V, wr.alloc (.cells #[.int .i64 kx, .int .i64 ky] 46) = V := ⟨_, rfl⟩
                    have BV : Hid (Below wr.heap.size wr V) := by rw [← hV]; exact balloc _ _
                    have XV : Hid (Bx2 V wr.heap.size kx ky) := by rw [← hV]; exact Bx2.new _ _ _
                    have x1 := XV.out.1
                    go_wp2_with fail
                    clear hV d1 d2 x1
                    refine (implValue_c ac pc cc zc kx _ HPC.out (by omega) (hCr.out.later BV.out).rd'.2 ky true HV.out).mono ?_
                    rintro e V2 ⟨rfl, hb⟩
                    have BV2 : Below wr.heap.size wr V2 := BV.out.trans (hb.mono BV.out.size)
                    have x2 := (XV.out.later hb).2
                    have hB2 : Hid (Below w.heap.size w V2) := hBr.out.trans (BV2.mono hBr.out.size)
                    have x2 := (XV.out.later hb).2
                    have hB2 : Hid (Below w.heap.size w V2) := hBr.out.trans (BV2.mono hBr.out.size)
                    have hP2 : Hid (RowP V2 w13.heap.size (some ⟨gb, ob, none⟩) qb cb zb) := hPr.out.later BV2
                    have hC2 : Hid (Own V2 w14.heap.size (.slice ac pc cc) zc) := hCr.out.later BV2
                    clear hb BV BV2 XV hBr hPr hCr
                    go_wp2
                    go_roundw
                    case rel => exact ⟨k + 1, by omega, by go_num, hB2, hP2, hC2⟩
                    case measure => simp [intOf]; omega
                  · go_wp2
                    go_ret
                    exact ⟨rfl, hBr.out⟩
    · skip
      go_simp
      refine hK.out _ _ ?_ (fun hHeld => ?_)
      · exact ⟨calloc hHeld.1, calloc hHeld.2⟩
      clear hK K
      try simp only [Act.put, List.setIfInBounds_toArray, List.set_cons_zero, List.set_cons_succ]
      have hsz : (D.alloc (.cells #[.int .i64 x, .int .i64 y] 46)).heap.size = D.heap.size + 1 := by simp
      have BY1 : Hid (Below D.heap.size D (D.alloc (.cells #[.int .i64 x, .int .i64 y] 46))) := B0.out.alloc z0 _
      have XPY1 : Hid (Bx2 (D.alloc (.cells #[.int .i64 x, .int .i64 y] 46)) D.heap.size x y) := Bx2.new _ _ _
      clear B0
      generalize D.alloc (.cells #[.int .i64 x, .int .i64 y] 46) = Y1 at hsz BY1 XPY1 hHeld ⊢
      have zY1 : D.heap.size ≤ Y1.heap.size := BY1.out.size
      have sY1 : Hid (Y1.heap.size = D.heap.size + 1) := hsz
      clear hsz
      refine wpAnyH_ready (rs := [0]) (by kernel_rfl) (by simp) ?_
      refine (AllReadyH.cons (o := _) rfl (fun K hK => ?_) AllReadyH.nil)
      go_simp
      refine hK.out _ _ ?_ (fun hHeld => ?_)
      · exact ⟨calloc hHeld.1, calloc hHeld.2⟩
      clear hK K
      try simp only [Act.put, List.setIfInBounds_toArray, List.set_cons_zero, List.set_cons_succ]
      have hsz : (Y1.alloc (.cells #[] 46)).heap.size = Y1.heap.size + 1 := by simp
      have BY2 : Hid (Below D.heap.size D (Y1.alloc (.cells #[] 46))) := BY1.out.alloc zY1 _
      have XPY2 : Hid (Bx2 (Y1.alloc (.cells #[] 46)) D.heap.size x y) := XPY1.out.later (balloc _ _)
      have OY2 : Hid (OwnP (Y1.alloc (.cells #[] 46)) D.heap.size (.slice (some ⟨Y1.heap.size, 0, none⟩) 0 0) []) := own_empty _ zY1
      clear BY1 XPY1
      generalize Y1.alloc (.cells #[] 46) = Y2 at hsz BY2 XPY2 OY2 hHeld ⊢
      have zY2 : D.heap.size ≤ Y2.heap.size := BY2.out.size
      have sY2 : Hid (Y2.heap.size = Y1.heap.size + 1) := hsz
      clear hsz
      refine wpAnyH_ready (rs := [2]) (by kernel_rfl) (by simp) ?_
      refine (AllReadyH.cons (o := _) rfl (fun K hK => ?_) AllReadyH.nil)
      rw [if_pos (by rfl)]
      refine wp_append_own _ _ _ 26 rfl D.heap.size 46 i0 (.agg #[.int .i64 0, .int .i64 0]) 2 16 Try.underlying26 hi hz0 hz1 hz2 rfl (by decide) (.slice (some ⟨Y1.heap.size, 0, none⟩) 0 0) 0 (cellsP []) rfl OY2.out ⟨ga, offa, none⟩ q1 c1 (cellsP zs) rfl (by rw [cellsP_length, HL1.out]) (row_news (PD.out.later BY2.out) (by omega)) (cellsP_one _) (by unfold maxLen; omega) (by omega) zY2 ?_
      intro v1 Y3 hown' hgrow _
      have hgr : Y2.grownBy Y3 (some Y1.heap.size) := hgrow
      have HO : Hid (OwnP Y3 D.heap.size v1 zs) := by show OwnP _ _ _ _; unfold OwnP; rw [HL1.out]; rw [show cellsP ([] : List (Int × Int)) = [] from rfl, List.nil_append, Nat.zero_add] at hown'; exact hown'
      have BY3 : Hid (Below D.heap.size D Y3) := Below.grown BY2.out hgr zY2 (fun j hj => by simp at hj; omega)
      have zY3 : D.heap.size ≤ Y3.heap.size := BY3.out.size
      have XPY3 : Hid (Bx2 Y3 D.heap.size x y) := XPY2.out.grown hgr (by have := sY1.out; have := sY2.out; omega)
      obtain ⟨av, cv, hv⟩ := HO.out.shape
      rw [HL1.out] at hv
      subst hv
      have OY3 : Hid (OwnP Y3 D.heap.size (.slice av q1 cv) zs) := HO
      refine hK.out _ _ ?_ (fun hHeld => ?_)
      · exact ⟨cell_keep (S := 0) BY3.out nD.out.1, cell_keep (S := 0) BY3.out nD.out.2⟩
      clear hK K hown' hgrow hgr HO OY2 BY2 XPY2
      try simp only [Act.put, List.setIfInBounds_toArray, List.set_cons_zero, List.set_cons_succ]
      refine wpAnyH_ready (rs := [5]) (by kernel_rfl) (by simp) ?_
      refine (AllReadyH.cons (o := _) rfl (fun K hK => ?_) AllReadyH.nil)
      rw [if_pos (by rfl)]
      have hO : Y3.ownsRow D.heap.size 46 2 (.slice av q1 cv) q1 (cellsP zs) := by have h := OY3.out; unfold OwnP at h; rw [HL1.out] at h; exact h
      refine wp_append_own _ _ _ 26 rfl D.heap.size 46 i0 (.agg #[.int .i64 0, .int .i64 0]) 2 16 Try.underlying26 hi hz0 hz1 hz2 rfl (by decide) (.slice av q1 cv) q1 (cellsP zs) rfl hO ⟨D.heap.size, 0, none⟩ 1 1 (cellsP [(x, y)]) rfl (by rfl) (two_news XPY3.out) (cellsP_one _) (by unfold maxLen; omega) (by omega) zY3 ?_
      intro v2 Y4 hown' hgrow _
      have HO2 : Hid (OwnP Y4 D.heap.size v2 (zs ++ [(x, y)])) := by show OwnP _ _ _ _; unfold OwnP; rw [List.length_append, HL1.out, cellsP_app]; exact hown'
      have BY4 : Hid (Below D.heap.size D Y4) := Below.grown BY3.out hgrow zY3 (fun j hj => (World.ownsRow.lt hO j hj).1)
      have hln : (zs ++ [(x, y)]).length = q1 + 1 := by rw [List.length_append, HL1.out]; rfl
      obtain ⟨a7, c7, hv⟩ := HO2.out.shape
      rw [hln] at hv
      subst hv
      have OY4 : Hid (OwnP Y4 D.heap.size (.slice a7 (q1 + 1) c7) (zs ++ [(x, y)])) := HO2
      have HLN : Hid ((zs ++ [(x, y)]).length = q1 + 1) := hln
      refine hK.out _ _ ?_ (fun hHeld => ?_)
      · exact ⟨cell_keep (S := 0) BY4.out nD.out.1, cell_keep (S := 0) BY4.out nD.out.2⟩
      clear hK K hown' hgrow hO HO2 hln OY3 XPY3 BY3
      try simp only [Act.put, List.setIfInBounds_toArray, List.set_cons_zero, List.set_cons_succ]
      refine wpAnyH_ready (rs := [6]) (by kernel_rfl) (by simp) ?_
      refine (AllReadyH.cons (o := _) rfl (fun K hK => ?_) AllReadyH.nil)
      go_simp
      refine (implJoin_c a7 (q1 + 1) c7 (zs ++ [(x, y)]) _ HLN.out (by omega) OY4.out.rd'.2 s true HT.out).mono ?_
      rintro e Y5 ⟨rfl, hb⟩
      have BY5 : Hid (Below D.heap.size D Y5) := BY4.out.trans (hb.mono BY4.out.size)
      refine hK.out _ _ ?_ (fun hHeld => ?_)
      · exact ⟨cell_keep (S := 0) BY5.out nD.out.1, cell_keep (S := 0) BY5.out nD.out.2⟩
      clear hK K hb OY4 HLN BY4
      try simp only [Act.put, List.setIfInBounds_toArray, List.set_cons_zero, List.set_cons_succ]
      refine takeH5 (i := 7) (oi := _) (v := ?_) (d := some 71) rfl (by kernel_rfl) (by kernel_rfl) (by kernel_rfl) (by kernel_rfl) (fun _ _ _ h => h) (Or.inl ⟨by rfl, ?_⟩) (by assumption) ?_
      rotate_left
      · (intro w hSw; (try dsimp only at hSw); go_simp <;> with_reducible rfl)
      try simp only [Act.put, List.setIfInBounds_toArray, List.set_cons_zero, List.set_cons_succ]
      refine takeH5 (i := 8) (oi := _) (v := ?_) (d := some 79) rfl (by kernel_rfl) (by kernel_rfl) (by kernel_rfl) (by kernel_rfl) (fun _ _ _ h => h) (Or.inl ⟨by rfl, ?_⟩) (by assumption) ?_
      rotate_left
      · (intro w hSw; (try dsimp only at hSw); go_simp <;> with_reducible rfl)
      try simp only [Act.put, List.setIfInBounds_toArray, List.set_cons_zero, List.set_cons_succ]
      refine takeH5 (i := 9) (oi := _) (v := ?_) (d := some 80) rfl (by kernel_rfl) (by kernel_rfl) (by kernel_rfl) (by kernel_rfl) (fun _ _ _ h => h) (Or.inl ⟨by rfl, ?_⟩) (by assumption) ?_
      rotate_left
      · (intro w hSw; (try dsimp only at hSw); go_simp <;> with_reducible rfl)
      try simp only [Act.put, List.setIfInBounds_toArray, List.set_cons_zero, List.set_cons_succ]
      refine takeH5 (i := 10) (oi := _) (v := ?_) (d := some 11) rfl (by kernel_rfl) (by kernel_rfl) (by kernel_rfl) (by kernel_rfl) (fun _ _ _ h => h) (Or.inl ⟨by rfl, ?_⟩) (by assumption) ?_
      rotate_left
      · (intro w hSw; (try dsimp only at hSw); go_simp <;> with_reducible rfl)
      try simp only [Act.put, List.setIfInBounds_toArray, List.set_cons_zero, List.set_cons_succ]
      refine takeH5 (i := 11) (oi := _) (v := ?_) (d := some 12) rfl (by kernel_rfl) (by kernel_rfl) (by kernel_rfl) (by kernel_rfl) (fun _ _ _ h => h) (Or.inl ⟨by rfl, ?_⟩) (by assumption) ?_
      rotate_left
      · (intro w hSw; (try dsimp only at hSw); go_simp <;> with_reducible rfl)
      try simp only [Act.put, List.setIfInBounds_toArray, List.set_cons_zero, List.set_cons_succ]
      refine wpAnyH_done (by kernel_rfl) ?_ _
      obtain ⟨w9, hw9⟩ : ∃ w9, w9 = Y5 := ⟨_, rfl⟩
      rw [← hw9]
      have HB9 : Hid (Below w.heap.size w w9) := by rw [hw9]; exact BD.out.trans (BY5.out.mono BD.out.size)
      have PO_9 : Hid (RowP w9 w.heap.size (some ⟨ga, offa, none⟩) q1 c1 zs) := by rw [hw9]; exact PD.out.later BY5.out
      have Xb1_9 : Hid (Bx2 w9 b1 x y) := by rw [hw9]; exact hHeld
      clear hw9 hHeld BY5 PD BD nD
      have hss : (s != s) = false := by simp
      go_wp2_with fail
      refine (numberOf_c bo m d _ hm (HM.out.later HB9.out HB9.out.size)).mono ?_
      rintro e w' ⟨z, rfl, hz0, hz1, hw⟩
      subst w'
      obtain ⟨o, ho⟩ : ∃ o, (s + 1 + z % 1498) % 1499 = o := ⟨_, rfl⟩
      have ho0 : 0 ≤ o := by omega
      have ho1 : o < 1499 := by omega
      obtain ⟨y2, hF2, hy2⟩ := HO.out o ho0 ho1 (by omega)
      have HF2 : Hid (fitsF zs o = ((x, y2), true)) := hF2
      have hyy : (y2 == y) = false := by simpa using hy2
      have hxx : (x != x) = false := by simp
      have hm0 : 0 ≤ z % 1498 := by omega
      have hm1 : z % 1498 < 1498 := by omega
      clear hF2 hy2 HO
      go_wp2_with fail
      refine (implFits_c (some ⟨ga, offa, none⟩) q1 c1 zs o _ HL1.out (by omega) PO_9.out.rd x y2 true HF2.out).mono ?_
      rintro e V10 ⟨rfl, hb⟩
      obtain ⟨w10, hw10⟩ : ∃ w10, V10.alloc (.cells #[.int .i64 x, .int .i64 y2] 46) = w10 := ⟨_, rfl⟩
      have hbx : Below w9.heap.size w9 w10 := hb.trans (by rw [← hw10]; exact (balloc _ _).mono hb.size)
      obtain ⟨b3, hb3⟩ : ∃ b3, V10.heap.size = b3 := ⟨_, rfl⟩
      have HB10 : Hid (Below w.heap.size w w10) := HB9.out.trans (hbx.mono HB9.out.size)
      have PO_10 : Hid (RowP w10 w.heap.size (some ⟨ga, offa, none⟩) q1 c1 zs) := PO_9.out.later hbx
      have Xb1_10 : Hid (Bx2 w10 b1 x y) := Xb1_9.out.later hbx
      have Xb3_10 : Hid (Bx2 w10 b3 x y2) := by rw [← hw10, ← hb3]; exact ⟨by simp, by simp⟩
      clear hb hbx HB9 PO_9 Xb1_9
      have hh : V10.heap.size = b3 := hb3
      clear ho hm0 hm1
      have n1 := Xb1_10.out.1
      have n2 := Xb1_10.out.2
      have n3 := Xb3_10.out.1
      have n4 := Xb3_10.out.2
      clear PO_10
      clear Xb1_10
      clear Xb3_10
      go_wp2_with fail
      refine (drawThrough_c bo m d _ hm (HM.out.later HB10.out HB10.out.size)).mono ?_
      rintro e w11 ⟨aa, qa, ca, za, xa, rfl, hqa, hr, hxa, hb⟩
      have HB11 : Hid (Below w.heap.size w w11) := HB10.out.trans (hb.mono HB10.out.size)
      have PA_11 : Hid (RowP w11 w10.heap.size aa qa ca za) := hr
      clear hb HB10
      clear hr n1 n2 n3 n4 hh hb3 hw10
      have HLA : Hid (za.length = qa) := PA_11.out.1
      obtain ⟨va, fa, hFa⟩ : ∃ va fa, throughF za xa = (va, fa) := ⟨_, _, rfl⟩
      have HFA : Hid (throughF za xa = (va, fa)) := hFa
      clear hFa
      go_wp2_with fail
      refine (implThrough_c aa qa ca za xa _ HLA.out (by omega) PA_11.out.rd va fa HFA.out).mono ?_
      rintro e w12 ⟨rfl, hb⟩
      have HB12 : Hid (Below w.heap.size w w12) := HB11.out.trans (hb.mono HB11.out.size)
      have PA_12 : Hid (RowP w12 w10.heap.size aa qa ca za) := PA_11.out.later hb
      clear hb HB11 PA_11
      go_wp2_with fail
      refine (specThrough_c aa qa ca za xa _ HLA.out (by omega) PA_12.out.rd va fa HFA.out).mono ?_
      rintro e w13 ⟨rfl, hb⟩
      have HB13 : Hid (Below w.heap.size w w13) := HB12.out.trans (hb.mono HB12.out.size)
      have PA_13 : Hid (RowP w13 w10.heap.size aa qa ca za) := PA_12.out.later hb
      clear hb HB12 PA_12
      clear PA_13
      go_wp2_with fail
      refine (drawPoly_c bo m d _ hm (HM.out.later HB13.out HB13.out.size)).mono ?_
      rintro e w14 ⟨ab, qb, cb, zb, rfl, hqb, hr, hb⟩
      have HB14 : Hid (Below w.heap.size w w14) := HB13.out.trans (hb.mono HB13.out.size)
      have PB_14 : Hid (RowP w14 w13.heap.size ab qb cb zb) := hr
      clear hb HB13
      clear hr
      have HLB : Hid (zb.length = qb) := PB_14.out.1
      obtain ⟨zc, fc, hFc⟩ : ∃ zc fc, polyThF zb = (zc, fc) := ⟨_, _, rfl⟩
      have HFC : Hid (polyThF zb = (zc, fc)) := hFc
      obtain ⟨pc, hpc⟩ : ∃ pc, zc.length = pc := ⟨_, rfl⟩
      have HPC : Hid (zc.length = pc) := hpc
      have hpc8 : pc ≤ 8 := by rw [← hpc]; exact polyThF_short hFc
      clear hFc hpc
      go_wp2_with fail
      refine (implPoly_c ab qb cb zb _ HLB.out (by omega) PB_14.out.rd zc fc pc HFC.out HPC.out).mono ?_
      rintro e w15 ⟨ac, cc, rfl, ho, hb⟩
      have HB15 : Hid (Below w.heap.size w w15) := HB14.out.trans (hb.mono HB14.out.size)
      have PB_15 : Hid (RowP w15 w13.heap.size ab qb cb zb) := PB_14.out.later hb
      have RC_15 : Hid (Own w15 w14.heap.size (.slice ac pc cc) zc) := ho
      clear hb HB14 PB_14
      clear ho
      go_wp2_with fail
      refine (specPoly_c ab qb cb zb _ HLB.out (by omega) PB_15.out.rd zc fc pc HFC.out HPC.out).mono ?_
      rintro e w16 ⟨ad, cd, rfl, ho, hb⟩
      have HB16 : Hid (Below w.heap.size w w16) := HB15.out.trans (hb.mono HB15.out.size)
      have PB_16 : Hid (RowP w16 w13.heap.size ab qb cb zb) := PB_15.out.later hb
      have RC_16 : Hid (Own w16 w14.heap.size (.slice ac pc cc) zc) := RC_15.out.later hb
      have RD_16 : Hid (Own w16 w15.heap.size (.slice ad pc cd) zc) := ho
      clear hb HB15 PB_15 RC_15
      clear ho
      go_wp2_with fail
      refine (drawWeights_c bo m d _ hm (HM.out.later HB16.out HB16.out.size)).mono ?_
      rintro e w17 ⟨ae, qe, ce, ze, rfl, hqe, hle, ho, hb⟩
      have HB17 : Hid (Below w.heap.size w w17) := HB16.out.trans (hb.mono HB16.out.size)
      have PB_17 : Hid (RowP w17 w13.heap.size ab qb cb zb) := PB_16.out.later hb
      have RC_17 : Hid (Own w17 w14.heap.size (.slice ac pc cc) zc) := RC_16.out.later hb
      have RD_17 : Hid (Own w17 w15.heap.size (.slice ad pc cd) zc) := RD_16.out.later hb
      have PE_17 : Hid (Own w17 w16.heap.size (.slice ae qe ce) ze) := ho
      clear hb HB16 PB_16 RC_16 RD_16
      clear ho
      have HLE : Hid (ze.length = qe) := hle
      obtain ⟨zf, ff, hFf⟩ : ∃ zf ff, weightsF ze = (zf, ff) := ⟨_, _, rfl⟩
      have HFF : Hid (weightsF ze = (zf, ff)) := hFf
      obtain ⟨pf, hpf⟩ : ∃ pf, zf.length = pf := ⟨_, rfl⟩
      have HPF : Hid (zf.length = pf) := hpf
      have hpf8 : pf ≤ 8 := by rw [← hpf]; exact weightsF_short hFf
      clear hFf hpf hle
      go_wp2_with fail
      refine (implWeights_c ae qe ce ze _ HLE.out (by omega) PE_17.out.cap PE_17.out.rd'.2 zf ff pf HFF.out HPF.out).mono ?_
      rintro e w18 ⟨af, cf, rfl, ho, hb⟩
      have HB18 : Hid (Below w.heap.size w w18) := HB17.out.trans (hb.mono HB17.out.size)
      have PB_18 : Hid (RowP w18 w13.heap.size ab qb cb zb) := PB_17.out.later hb
      have RC_18 : Hid (Own w18 w14.heap.size (.slice ac pc cc) zc) := RC_17.out.later hb
      have RD_18 : Hid (Own w18 w15.heap.size (.slice ad pc cd) zc) := RD_17.out.later hb
      have PE_18 : Hid (Own w18 w16.heap.size (.slice ae qe ce) ze) := PE_17.out.later hb
      have RF_18 : Hid (Own w18 w17.heap.size (.slice af pf cf) zf) := ho
      clear hb HB17 PB_17 RC_17 RD_17 PE_17
      clear ho
      go_wp2_with fail
      refine (specWeights_c ae qe ce ze _ HLE.out (by omega) PE_18.out.cap PE_18.out.rd'.2 zf ff pf HFF.out HPF.out).mono ?_
      rintro e w19 ⟨ag, cg, rfl, ho, hb⟩
      have HB19 : Hid (Below w.heap.size w w19) := HB18.out.trans (hb.mono HB18.out.size)
      have PB_19 : Hid (RowP w19 w13.heap.size ab qb cb zb) := PB_18.out.later hb
      have RC_19 : Hid (Own w19 w14.heap.size (.slice ac pc cc) zc) := RC_18.out.later hb
      have RD_19 : Hid (Own w19 w15.heap.size (.slice ad pc cd) zc) := RD_18.out.later hb
      have PE_19 : Hid (Own w19 w16.heap.size (.slice ae qe ce) ze) := PE_18.out.later hb
      have RF_19 : Hid (Own w19 w17.heap.size (.slice af pf cf) zf) := RF_18.out.later hb
      have RG_19 : Hid (Own w19 w18.heap.size (.slice ag pf cg) zf) := ho
      clear hb HB18 PB_18 RC_18 RD_18 PE_18 RF_18
      clear ho
      clear PE_19
      have r1 : (fa != fa) = false := by simp
      have r2 : (va != va) = false := by simp
      have r3 : (fc != fc) = false := by simp
      have r4 : (ff != ff) = false := by simp
      go_wp2_with fail
      refine (sameInts_c ac ad pc pc cc cd zc zc _ HPC.out HPC.out (by omega) (by omega) RC_19.out.rd'.2 RD_19.out.rd'.2).mono ?_
      rw [decide_eq_true rfl]
      rintro e w20 ⟨rfl, hb⟩
      have HB20 : Hid (Below w.heap.size w w20) := HB19.out.trans (hb.mono HB19.out.size)
      have PB_20 : Hid (RowP w20 w13.heap.size ab qb cb zb) := PB_19.out.later hb
      have RC_20 : Hid (Own w20 w14.heap.size (.slice ac pc cc) zc) := RC_19.out.later hb
      have RD_20 : Hid (Own w20 w15.heap.size (.slice ad pc cd) zc) := RD_19.out.later hb
      have RF_20 : Hid (Own w20 w17.heap.size (.slice af pf cf) zf) := RF_19.out.later hb
      have RG_20 : Hid (Own w20 w18.heap.size (.slice ag pf cg) zf) := RG_19.out.later hb
      clear hb HB19 PB_19 RC_19 RD_19 RF_19 RG_19
      clear RD_20
      go_wp2_with fail
      refine (sameInts_c af ag pf pf cf cg zf zf _ HPF.out HPF.out (by omega) (by omega) RF_20.out.rd'.2 RG_20.out.rd'.2).mono ?_
      rw [decide_eq_true rfl]
      rintro e w21 ⟨rfl, hb⟩
      have HB21 : Hid (Below w.heap.size w w21) := HB20.out.trans (hb.mono HB20.out.size)
      have PB_21 : Hid (RowP w21 w13.heap.size ab qb cb zb) := PB_20.out.later hb
      have RC_21 : Hid (Own w21 w14.heap.size (.slice ac pc cc) zc) := RC_20.out.later hb
      have RF_21 : Hid (Own w21 w17.heap.size (.slice af pf cf) zf) := RF_20.out.later hb
      have RG_21 : Hid (Own w21 w18.heap.size (.slice ag pf cg) zf) := RG_20.out.later hb
      clear hb HB20 PB_20 RC_20 RF_20 RG_20
      clear RG_21
      clear r1 r2 r3 r4
      cases ff with
      | false =>
        clear RF_21
        cases fc with
        | false =>
          go_wp2
          go_ret
          exact ⟨rfl, HB21.out⟩
        | true =>
          have T5 : Hid (∀ k, k < qb → valueF zc (zb.getD k (0, 0)).1 = ((zb.getD k (0, 0)).2, true)) := by show _; rw [← HLB.out]; exact poly_tell HFC.out
          go_wp2
          go_loopw [205] (fun i wr => ∃ k : Nat, k ≤ qb ∧ i = .int .i64 k ∧ Hid (Below w.heap.size w wr) ∧ Hid (RowP wr w13.heap.size ab qb cb zb) ∧ Hid (Own wr w14.heap.size (.slice ac pc cc) zc)) (fun i _ => qb - (intOf i).toNat)
          case atStart => exact ⟨0, Nat.zero_le _, rfl, HB21, PB_21, RC_21⟩
          case round =>
            clear HB21 PB_21 RC_21
            obtain ⟨k, hk, rfl, hBr, hPr, hCr⟩ := hrel
            by_cases hlt : k < qb
            · have h0 : (0 : Int) ≤ (k : Int) := by omega
              have hkl : (k : Int) < (qb : Int) := by omega
              obtain ⟨gb, ob, hgb, _, _, hcells⟩ := hPr.out.at (by omega)
              subst hgb
              obtain ⟨⟨d1, d2⟩, _⟩ := hcells k hlt
              have TV := T5.out k hlt
              generalize (zb.getD k (0, 0)).1 = kx at *
              generalize (zb.getD k (0, 0)).2 = ky at *
              have HV : Hid (valueF zc kx = (ky, true)) := TV
              have hkk : (ky != ky) = false := by simp
              clear TV hcells
              obtain ⟨V, hV⟩ : ∃ V, wr.alloc (.cells #[.int .i64 kx, .int .i64 ky] 46) = V := ⟨_, rfl⟩
              have BV : Hid (Below wr.heap.size wr V) := by rw [← hV]; exact balloc _ _
              have XV : Hid (Bx2 V wr.heap.size kx ky) := by rw [← hV]; exact Bx2.new _ _ _
              have x1 := XV.out.1
              go_wp2_with fail
              clear hV d1 d2 x1
              refine (implValue_c ac pc cc zc kx _ HPC.out (by omega) (hCr.out.later BV.out).rd'.2 ky true HV.out).mono ?_
              rintro e V2 ⟨rfl, hb⟩
              have BV2 : Below wr.heap.size wr V2 := BV.out.trans (hb.mono BV.out.size)
              have x2 := (XV.out.later hb).2
              have hB2 : Hid (Below w.heap.size w V2) := hBr.out.trans (BV2.mono hBr.out.size)
              have x2 := (XV.out.later hb).2
              have hB2 : Hid (Below w.heap.size w V2) := hBr.out.trans (BV2.mono hBr.out.size)
              have hP2 : Hid (RowP V2 w13.heap.size (some ⟨gb, ob, none⟩) qb cb zb) := hPr.out.later BV2
              have hC2 : Hid (Own V2 w14.heap.size (.slice ac pc cc) zc) := hCr.out.later BV2
              clear hb BV BV2 XV hBr hPr hCr
              go_wp2
              go_roundw
              case rel => exact ⟨k + 1, by omega, by go_num, hB2, hP2, hC2⟩
              case measure => simp [intOf]; omega
            · go_wp2
              go_ret
              exact ⟨rfl, hBr.out⟩
      | true =>
        obtain ⟨t1, t2, t3⟩ := weights_tell HFF.out
        have T1 : Hid (sumI zf = 1) := t1
        have T2 : Hid (∀ k, k < pf → 0 ≤ zf.getD k 0 ∧ zf.getD k 0 < 1499) := by rw [← HPF.out]; exact t2
        have T3 : Hid (∀ k, k ≤ pf → 0 ≤ sumI (zf.take k) ∧ sumI (zf.take k) < 1499) := by rw [← HPF.out]; exact t3
        clear t1 t2 t3
        have hpf : 0 < pf := by
          rcases Nat.eq_zero_or_pos pf with h0 | h0
          · have h1 := HPF.out
            rw [h0] at h1
            have h2 : zf = [] := List.length_eq_zero_iff.1 h1
            have h3 := T1.out
            rw [h2] at h3
            exact absurd h3 (by decide)
          · exact h0
        obtain ⟨gf, hgf, _⟩ := own_some RF_21.out hpf
        subst hgf
        have CF : Hid (∀ j, j < pf → w21.cell? ⟨gf, j, none⟩ = some (.int .i64 (zf.getD j 0))) := fun j hj => by
          have h := RF_21.out
          rw [← HPF.out] at h
          exact h.cell j (by rw [HPF.out]; exact hj)
        clear RF_21
        have HA : Hid (sumI (zf.take pf) = 1) := by show _ = _; rw [List.take_of_length_le (by rw [HPF.out]; exact Nat.le_refl _)]; exact T1.out
        go_wp2
        go_loop [32, 191] (fun nn i => ∃ k : Nat, k ≤ pf ∧ nn = .int .i64 (sumI (zf.take k)) ∧ i = .int .i64 k) (fun _ i => pf - (intOf i).toNat)
        case atStart => exact ⟨0, Nat.zero_le _, rfl, rfl⟩
        case round =>
          obtain ⟨k, hk, rfl, rfl⟩ := hrel
          by_cases hlt : k < pf
          · have h0 : (0 : Int) ≤ (k : Int) := by omega
            have hkl : (k : Int) < (pf : Int) := by omega
            have cz := CF.out k hlt
            have b1 := T2.out k hlt
            have b2 := T3.out k (by omega)
            have HS : Hid ((sumI (zf.take k) + zf.getD k 0) % 1499 = sumI (zf.take (k + 1))) := (sumI_step (by rw [HPF.out]; exact hlt)).symm
            generalize sumI (zf.take k) = A at *
            generalize zf.getD k 0 = e0 at *
            go_wp2
            go_round
            case rel => exact ⟨k + 1, by omega, by rw [← HS.out], by go_num⟩
            case measure => simp [intOf]; omega
          · obtain rfl : k = pf := by omega
            have ha := HA.out
            rw [ha]
            clear ha HA CF T1 T2 T3
            cases fc with
            | false =>
              go_wp2
              go_ret
              exact ⟨rfl, HB21.out⟩
            | true =>
              have T5 : Hid (∀ k, k < qb → valueF zc (zb.getD k (0, 0)).1 = ((zb.getD k (0, 0)).2, true)) := by show _; rw [← HLB.out]; exact poly_tell HFC.out
              go_wp2
              go_loopw [205] (fun i wr => ∃ k : Nat, k ≤ qb ∧ i = .int .i64 k ∧ Hid (Below w.heap.size w wr) ∧ Hid (RowP wr w13.heap.size ab qb cb zb) ∧ Hid (Own wr w14.heap.size (.slice ac pc cc) zc)) (fun i _ => qb - (intOf i).toNat)
              case atStart => exact ⟨0, Nat.zero_le _, rfl, HB21, PB_21, RC_21⟩
              case round =>
                clear HB21 PB_21 RC_21
                obtain ⟨k, hk, rfl, hBr, hPr, hCr⟩ := hrel
                by_cases hlt : k < qb
                · have h0 : (0 : Int) ≤ (k : Int) := by omega
                  have hkl : (k : Int) < (qb : Int) := by omega
                  obtain ⟨gb, ob, hgb, _, _, hcells⟩ := hPr.out.at (by omega)
                  subst hgb
                  obtain ⟨⟨d1, d2⟩, _⟩ := hcells k hlt
                  have TV := T5.out k hlt
                  generalize (zb.getD k (0, 0)).1 = kx at *
                  generalize (zb.getD k (0, 0)).2 = ky at *
                  have HV : Hid (valueF zc kx = (ky, true)) := TV
                  have hkk : (ky != ky) = false := by simp
                  clear TV hcells
                  obtain ⟨V, hV⟩ : ∃ V, wr.alloc (.cells #[.int .i64 kx, .int .i64 ky] 46) = V := ⟨_, rfl⟩
                  have BV : Hid (Below wr.heap.size wr V) := by rw [← hV]; exact balloc _ _
                  have XV : Hid (Bx2 V wr.heap.size kx ky) := by rw [← hV]; exact Bx2.new _ _ _
                  have x1 := XV.out.1
                  go_wp2_with fail
                  clear hV d1 d2 x1
                  refine (implValue_c ac pc cc zc kx _ HPC.out (by omega) (hCr.out.later BV.out).rd'.2 ky true HV.out).mono ?_
                  rintro e V2 ⟨rfl, hb⟩
                  have BV2 : Below wr.heap.size wr V2 := BV.out.trans (hb.mono BV.out.size)
                  have x2 := (XV.out.later hb).2
                  have hB2 : Hid (Below w.heap.size w V2) := hBr.out.trans (BV2.mono hBr.out.size)
                  have x2 := (XV.out.later hb).2
                  have hB2 : Hid (Below w.heap.size w V2) := hBr.out.trans (BV2.mono hBr.out.size)
                  have hP2 : Hid (RowP V2 w13.heap.size (some ⟨gb, ob, none⟩) qb cb zb) := hPr.out.later BV2
                  have hC2 : Hid (Own V2 w14.heap.size (.slice ac pc cc) zc) := hCr.out.later BV2
                  clear hb BV BV2 XV hBr hPr hCr
                  go_wp2
                  go_roundw
                  case rel => exact ⟨k + 1, by omega, by go_num, hB2, hP2, hC2⟩
                  case measure => simp [intOf]; omega
                · go_wp2
                  go_ret
                  exact ⟨rfl, hBr.out⟩

end Go.Proofs.Ytamppekadobagaa
