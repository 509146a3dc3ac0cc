/- Chapter 8, the specification: rounds played. -/
import Derived.Test.YtnppmgnfignbcaaSQ8
import Derived.Test.YtnppmgnfignbcaaPM8
namespace Go.Proofs.Ytnppmgnfignbcaa
set_option linter.unusedVariables false
set_option maxRecDepth 1000000
set_option linter.unusedSimpArgs false
open Go.RowKit

theorem row_sepI {w : World} {b1 b2 n : Nat} {u v : Value} {x : List Int} {vs : List Value} (h : Own w b1 u x) (k : w.ownsRow b2 29 1 v n vs) : u.ownBlock = none ∨ u.ownBlock ≠ v.ownBlock := by
  rcases h.2 with ⟨rfl, _⟩ | ⟨g, cap, cur, rfl, _, hg, _⟩
  · exact Or.inl rfl
  · rcases k.2 with ⟨rfl, _⟩ | ⟨g', cap', cur', rfl, _, hg', _⟩
    · exact Or.inr (by simp [Value.ownBlock])
    · refine Or.inr fun e => ?_
      simp only [Value.ownBlock, Option.some.injEq] at e
      subst e
      rw [hg] at hg'
      simp at hg'

/-- The box of the mix that is played with, and what has gone out. -/
structure PlayS (wr : World) (ρ : Nat) (z : MixV) (pa : Option Addr) (pc : Nat) (sa : Option Addr) (sd : Nat) (aa : Option Addr) (k ac : Nat) (outs : List (List ByteArray)) : Prop where
  box : C5 wr ρ (.slice pa z.pool.length pc) z.least z.wait z.old (.slice sa z.seen.length sd)
  mix : MixOwn wr (ρ + 1) pa pc sa sd z
  out : OwnSS wr (ρ + 1) (.slice aa k ac) outs

set_option maxHeartbeats 8000000 in
theorem specPlay_go (ao : Option Addr) (n c : Nat) (a b : Int) (xss : List (List ByteArray)) (w : World) (hx : xss.length = n) (hn : n ≤ 20) (hnew : newB a b = true) (hr : RdSS w ao xss) (hl : ∀ l ∈ xss, l.length ≤ 1048576 ∧ ∀ s ∈ l, s.size ≤ 9223372036854775807) (R : Option (List (List ByteArray))) (hR : playM ⟨[], a, b, 0, []⟩ xss = R) :
    Calls Try.prog 15 #[.int .i64 a, .int .i64 b, .slice ao n c] w fun e w' => PlayOut w w' e R ∧ Below w.heap.size w w' := by
  have q0 := specNew_c a b w
  have hnm : newM a b = ⟨[], a, b, 0, []⟩ := by unfold newM; rw [if_pos hnew]
  rw [hnm, hnew] at q0
  have i20 : ¬ (20 : Int) < (n : Int) := by omega
  have HX : Hid (xss.length = n) := hx
  have HR : Hid (RdSS w ao xss) := hr
  have HL : Hid (∀ l ∈ xss, l.length ≤ 1048576 ∧ ∀ s ∈ l, s.size ≤ 9223372036854775807) := hl
  have HG0 : Hid (GoodV ⟨[], a, b, 0, []⟩) := good_new hnew
  have HRR : Hid (playM ⟨[], a, b, 0, []⟩ xss = R) := hR
  clear hx hr hl hR hnm hnew
  go_enter Try.func15, Try.ntmps15
  go_wp2_with fail
  refine q0.mono ?_
  clear q0
  rintro e w1 ⟨rfl, hb1⟩
  have hN := c5_new w1 (.slice none 0 0) a b 0 (.slice none 0 0) 41 w1.heap.size rfl
  have hB1 := hb1.alloc hb1.size (.cells #[.slice none 0 0, .int .i64 a, .int .i64 b, .int .i64 0, .slice none 0 0] 41)
  have hz : (w1.alloc (.cells #[.slice none 0 0, .int .i64 a, .int .i64 b, .int .i64 0, .slice none 0 0] 41)).heap.size = w1.heap.size + 1 := by simp
  obtain ⟨_, _, _, hS3, hS4⟩ := box_same w1 (.slice none 0 0) a b 0 (.slice none 0 0) 41
  obtain ⟨V, hV⟩ : ∃ V, w1.alloc (.cells #[.slice none 0 0, .int .i64 a, .int .i64 b, .int .i64 0, .slice none 0 0] 41) = V := ⟨_, rfl⟩
  rw [hV] at hN hB1 hz hS3 hS4
  obtain ⟨ρ, hρ⟩ : ∃ ρ, w1.heap.size = ρ := ⟨_, rfl⟩
  rw [hρ] at hN hS3 hS4 hz
  have HI0 : Hid (∃ (z : MixV) (outs : List (List ByteArray)) (pa : Option Addr) (pc : Nat) (sa : Option Addr) (sd : Nat), outs.length = 0 ∧ GoodV z ∧ PlayS V ρ z pa pc sa sd none 0 0 outs ∧ (playM z (xss.drop 0)).map (outs ++ ·) = R) := by
    refine ⟨⟨[], a, b, 0, []⟩, [], none, 0, none, 0, rfl, HG0.out, ⟨hN, ⟨World.ownsRow_nil _ _ _ _, World.ownsRow_nil _ _ _ _⟩, ⟨[], rfl, World.ownsRow_nil _ _ _ _, fun j h => absurd h (by simp), fun i j _ h => absurd h (by simp)⟩⟩, ?_⟩
    rw [List.drop_zero, HRR.out]
    cases R <;> simp
  have HB0 : Hid (Below w.heap.size w V ∧ w.heap.size ≤ ρ ∧ ρ + 1 ≤ V.heap.size) := ⟨hB1, by have := hb1.size; omega, by omega⟩
  obtain ⟨⟨n0, n1, n2, n3, n4⟩, nf⟩ := hN
  have nf3 := nf 3; have nf4 := nf 4
  clear hB1 hz hb1 nf HRR HG0
  go_wp2
  go_loopw [10, 34] (fun v iv wr => ∃ (k : Nat) (aa : Option Addr) (ac : Nat), k ≤ n ∧ iv = .int .i64 k ∧ v = .slice aa k ac ∧ Hid (∃ (z : MixV) (outs : List (List ByteArray)) (pa : Option Addr) (pc : Nat) (sa : Option Addr) (sd : Nat), outs.length = k ∧ GoodV z ∧ PlayS wr ρ z pa pc sa sd aa k ac outs ∧ (playM z (xss.drop k)).map (outs ++ ·) = R) ∧ Hid (Below w.heap.size w wr ∧ w.heap.size ≤ ρ ∧ ρ + 1 ≤ wr.heap.size)) (fun _ iv _ => n - (intOf iv).toNat)
  case atStart => exact ⟨0, none, 0, Nat.zero_le _, rfl, rfl, HI0, HB0⟩
  case round =>
    clear HI0 HB0 hV hS3 hS4 n0 n1 n2 n3 n4 nf3 nf4 hρ
    obtain ⟨k, aa, ac, hk, rfl, rfl, HI, HB⟩ := hrel
    obtain ⟨z, outs, pa, pc, sa, sd, hol, hg, hPS, hPl⟩ := HI.out
    by_cases hlt : k < n
    · have hkl : k < xss.length := by rw [HX.out]; exact hlt
      obtain ⟨b0, o0, ro, rc, rfl, g1, hro⟩ := (HR.out.later HB.out.1).get hkl
      have hlk := HL.out _ (mem_getD [] hkl)
      rw [playM_step hkl] at hPl
      have k0 : (0 : Int) ≤ (k : Int) := by omega
      have k1 : (k : Int) < (n : Int) := by omega
      obtain ⟨Y, hY⟩ : ∃ Y, Y = wr := ⟨_, rfl⟩
      have HRO : Hid (∀ wx, Below w.heap.size w wx → RdS wx ro (xss.getD k [])) := fun wx h => by
        obtain ⟨b1, o1, r1, c1, he, hc1, hr1⟩ := (HR.out.later h).get hkl
        obtain ⟨b2, o2, r2, c2, he2, hc2, hr2⟩ := (HR.out).get hkl
        simp only [Option.some.injEq, Addr.mk.injEq] at he he2
        obtain ⟨rfl, rfl, _⟩ := he
        obtain ⟨rfl, rfl, _⟩ := he2
        have e1 := HB.out.1.cell (p := ⟨b0, o0 + k, none⟩) (World.block_lt_of_cell? w _ hc2)
        have e2 := h.cell (p := ⟨b0, o0 + k, none⟩) (World.block_lt_of_cell? w _ hc2)
        rw [g1] at e1
        rw [hc1, ← e1] at e2
        simp only [Option.some.injEq, Value.slice.injEq] at e2
        rw [← e2.1]; exact hr1
      generalize xss.getD k [] = row at g1 hro hlk hPl HRO
      obtain ⟨rn, hrn⟩ : ∃ rn, row.length = rn := ⟨_, rfl⟩
      rw [hrn] at g1
      have q1 := l8Pool_c ro rn rc row wr hrn (by have := hlk.1; omega) hro hlk.2
      cases hpb : poolB row with
      | false =>
        rw [hpb] at q1 hPl
        have hRn : R = none := by rw [← hPl]; simp
        subst hRn
        clear hpb hPl hPS hg hlk hro hrn HI hkl HRO hY
        go_wp2_with fail
        refine q1.mono ?_
        clear q1
        rintro e w' ⟨rfl, hw⟩
        subst w'
        go_wp2
        refine bodyPost_ret (v := .tuple #[.slice none 0 0, .bool false]) (by simp [results, Try.results15, go_sem]; try rfl) rfl ?_
        exact ⟨rfl, HB.out.1⟩
      | true =>
        rw [hpb] at q1
        rw [if_pos hpb] at hPl
        obtain ⟨h12, h24⟩ := pool_facts hpb
        have HRN : Hid (row.length = rn) := hrn
        have hrn12 : rn ≤ 12 := by omega
        have H24 : Hid (∀ s ∈ row, s.size ≤ 24) := h24
        have HG : Hid (GoodV z) := hg
        have HI0 : Hid (∃ (pa : Option Addr) (pc : Nat) (sa : Option Addr) (sd : Nat), PlayS wr ρ (putsM z (row.take 0)) pa pc sa sd aa k ac outs) := ⟨pa, pc, sa, sd, hPS⟩
        have HPLY : Hid (Option.map (outs ++ ·) (Option.map ((tickM (putsM z row)).2 :: ·) (playM (tickM (putsM z row)).1 (xss.drop (k + 1)))) = R) := hPl
        have HOL : Hid (outs.length = k) := hol
        have HBY : Hid (Below w.heap.size w Y ∧ w.heap.size ≤ ρ ∧ ρ + 1 ≤ Y.heap.size) := by rw [hY]; exact HB
        subst hY
        clear hpb hPl hPS hg hlk hro hrn HI hkl hol h24 HB h12
        go_wp2_with fail
        refine q1.mono ?_
        clear q1
        rintro e w' ⟨rfl, hw⟩
        subst w'
        go_wp2
        go_loopw [43] (fun jv wr => ∃ j : Nat, j ≤ rn ∧ jv = .int .i64 j ∧ Hid (∃ (pa : Option Addr) (pc : Nat) (sa : Option Addr) (sd : Nat), PlayS wr ρ (putsM z (row.take j)) pa pc sa sd aa k ac outs) ∧ Hid (Below w.heap.size w wr ∧ w.heap.size ≤ ρ ∧ ρ + 1 ≤ wr.heap.size)) (fun jv _ => rn - (intOf jv).toNat)
        case atStart => exact ⟨0, Nat.zero_le _, rfl, HI0, HBY⟩
        case round =>
          clear HI0 HBY
          obtain ⟨j, hj, rfl, HI, HB⟩ := hrel
          obtain ⟨pa, pc, sa, sd, hPS⟩ := HI.out
          have hgj : GoodV (putsM z (row.take j)) := good_puts _ HG.out (fun s hs => H24.out s (List.mem_of_mem_take hs))
          by_cases hjl : j < rn
          · have hjr : j < row.length := by rw [HRN.out]; exact hjl
            obtain ⟨b2, o2, rfl, g2⟩ := (HRO.out _ HB.out.1).get hjr
            have hnx := putsM_take (z := z) hjr
            have ht24 := H24.out _ (mem_getD ByteArray.empty hjr)
            have j0 : (0 : Int) ≤ (j : Int) := by omega
            have j1 : (j : Int) < (rn : Int) := by omega
            generalize row.getD j ByteArray.empty = t at g2 hnx ht24
            generalize putsM z (row.take j) = Z at hPS hgj hnx
            obtain ⟨xs, za, zb, zt, ys⟩ := Z
            obtain ⟨pn, hpn⟩ : ∃ pn, xs.length = pn := ⟨_, rfl⟩
            obtain ⟨sn, hsn⟩ : ∃ sn, ys.length = sn := ⟨_, rfl⟩
            have q2 := l8Put_c (ρ + 1) pa sa pn pc sn sd ⟨xs, za, zb, zt, ys⟩ t wr hpn hsn HB.out.2.2 hPS.mix (by omega) hgj
            have hC' : C5 wr ρ (.slice pa pn pc) za zb zt (.slice sa sn sd) := by have h := hPS.box; rw [← hpn, ← hsn]; exact h
            have HC : Hid (C5 wr ρ (.slice pa pn pc) za zb zt (.slice sa sn sd)) := hC'
            have HOS : Hid (OwnSS wr (ρ + 1) (.slice aa k ac) outs) := hPS.out
            generalize hPM : (putM ⟨xs, za, zb, zt, ys⟩ t).1 = P at q2 hnx
            generalize (putM ⟨xs, za, zb, zt, ys⟩ t).2 = code at q2
            obtain ⟨px, qa, qb, qt, py⟩ := P
            have HNX : Hid (putsM z (row.take (j + 1)) = ⟨px, qa, qb, qt, py⟩) := hnx
            obtain ⟨⟨c0, c1, c2, c3, c4⟩, f⟩ := hC'
            clear f hPS hgj hnx hpn hsn hPM HI hjr ht24
            go_wp2_with fail
            refine q2.mono ?_
            clear q2 c0 c1 c2 c3 c4
            rintro e w2 ⟨⟨p2, k2, s2, d2, he2, hm2⟩, hb2⟩
            obtain ⟨xn, hxn⟩ : ∃ xn, px.length = xn := ⟨_, rfl⟩
            obtain ⟨yn, hyn⟩ : ∃ yn, py.length = yn := ⟨_, rfl⟩
            have he2' : e = .returned (.tuple #[.agg #[.slice p2 xn k2, .int .i64 qa, .int .i64 qb, .int .i64 qt, .slice s2 yn d2], .int .i64 code]) := by rw [he2, ← hxn, ← hyn]
            subst he2'
            have bT := balloc w2 (.cells #[.slice p2 xn k2, .int .i64 qa, .int .i64 qb, .int .i64 qt, .slice s2 yn d2] 41)
            have hN := c5_new w2 (.slice p2 xn k2) qa qb qt (.slice s2 yn d2) 41 w2.heap.size rfl
            have hC4 := (HC.out.later hb2).later bT
            have hM4 := hm2.later bT
            have hO4 := (HOS.out.later hb2).later bT
            have hb4 : Below wr.heap.size wr (w2.alloc (.cells #[.slice p2 xn k2, .int .i64 qa, .int .i64 qb, .int .i64 qt, .slice s2 yn d2] 41)) := hb2.alloc hb2.size _
            obtain ⟨V4, hV4⟩ : ∃ V4, w2.alloc (.cells #[.slice p2 xn k2, .int .i64 qa, .int .i64 qb, .int .i64 qt, .slice s2 yn d2] 41) = V4 := ⟨_, rfl⟩
            rw [hV4] at hN hC4 hM4 hO4 hb4
            have hg5 := put5_grown V4 ρ (.slice p2 xn k2) qa qb qt (.slice s2 yn d2)
            have hC5 := hC4.put (.slice p2 xn k2) qa qb qt (.slice s2 yn d2)
            have hM5 := hM4.kept hg5 ⟨fun q e => by have := (hM4.lt.1 q e).1; omega, fun q e => by have := (hM4.lt.2 q e).1; omega⟩
            have hO5 := hO4.kept1 hg5 (by omega)
            have hB5 : Below w.heap.size w (put5 V4 ρ (.slice p2 xn k2) qa qb qt (.slice s2 yn d2)) := (HB.out.1.trans (hb4.mono HB.out.1.size)).trans (below_grown hg5 HB.out.2.1 (Nat.le_trans HB.out.1.size hb4.size))
            have HI5 : Hid (∃ (pa : Option Addr) (pc : Nat) (sa : Option Addr) (sd : Nat), PlayS (put5 V4 ρ (.slice p2 xn k2) qa qb qt (.slice s2 yn d2)) ρ (putsM z (row.take (j + 1))) pa pc sa sd aa k ac outs) := by
              show ∃ pa pc sa sd, _
              rw [HNX.out]
              refine ⟨p2, k2, s2, d2, ?_, hM5, hO5⟩
              show C5 _ ρ (.slice p2 px.length k2) qa qb qt (.slice s2 py.length d2)
              rw [hxn, hyn]; exact hC5
            have HB5 : Hid (Below w.heap.size w (put5 V4 ρ (.slice p2 xn k2) qa qb qt (.slice s2 yn d2)) ∧ w.heap.size ≤ ρ ∧ ρ + 1 ≤ (put5 V4 ρ (.slice p2 xn k2) qa qb qt (.slice s2 yn d2)).heap.size) := ⟨hB5, HB.out.2.1, Nat.le_trans HB.out.2.2 (Nat.le_trans hb4.size hg5.size)⟩
            obtain ⟨⟨n0, n1, n2, n3, n4⟩, nf⟩ := hN
            obtain ⟨⟨c0, c1, c2, c3, c4⟩, f⟩ := hC4
            have f0 := f 0; have f1 := f 1; have f2 := f 2; have f3 := f 3; have f4 := f 4
            clear nf f he2 hm2 hb2 hxn hyn bT hM4 hO4 hb4 hg5 hC5 hM5 hO5 hB5 HC HOS HB HNX
            go_wp2
            go_roundw
            case rel => exact ⟨j + 1, by omega, by go_num, HI5, HB5⟩
            case measure => simp [intOf]; omega
          · obtain rfl : j = rn := by omega
            rw [List.take_of_length_le (by rw [HRN.out]; exact Nat.le_refl _)] at hPS hgj
            generalize putsM z row = P at hPS hgj HPLY
            obtain ⟨px, qa, qb, qt, py⟩ := P
            obtain ⟨xn, hxn⟩ : ∃ xn, px.length = xn := ⟨_, rfl⟩
            obtain ⟨yn, hyn⟩ : ∃ yn, py.length = yn := ⟨_, rfl⟩
            have hXM : xn ≤ 12 := by rw [← hxn]; exact hgj.many
            have q3 := l8Tick_c pa sa xn pc yn sd qa qb qt px py wr hxn (by omega) hPS.mix.rd.rp (by rw [← hxn]; exact hPS.mix.rd.np) hgj.old
            have HGT : Hid (GoodV (tickM ⟨px, qa, qb, qt, py⟩).1) := good_tick hgj
            have hts := tickM_seen ⟨px, qa, qb, qt, py⟩
            have htl := tickM_small (m := ⟨px, qa, qb, qt, py⟩) hgj.many
            have htp : (tickM ⟨px, qa, qb, qt, py⟩).1.pool = px ∧ (tickM ⟨px, qa, qb, qt, py⟩).2 = [] ∨ (tickM ⟨px, qa, qb, qt, py⟩).1.pool = [] ∧ (tickM ⟨px, qa, qb, qt, py⟩).2 = px := by
              unfold tickM
              split
              · exact Or.inl ⟨rfl, rfl⟩
              · split
                · exact Or.inl ⟨rfl, rfl⟩
                · exact Or.inr ⟨rfl, rfl⟩
            have hC' : C5 wr ρ (.slice pa xn pc) qa qb qt (.slice sa yn sd) := by have h := hPS.box; rw [← hxn, ← hyn]; exact h
            have HC : Hid (C5 wr ρ (.slice pa xn pc) qa qb qt (.slice sa yn sd)) := hC'
            have HOS : Hid (OwnSS wr (ρ + 1) (.slice aa k ac) outs) := hPS.out
            have HMX : Hid (MixOwn wr (ρ + 1) pa pc sa sd ⟨px, qa, qb, qt, py⟩) := hPS.mix
            obtain ⟨T, hT⟩ : ∃ T, (tickM ⟨px, qa, qb, qt, py⟩).1 = T := ⟨_, rfl⟩
            obtain ⟨lo, hlo⟩ : ∃ lo, (tickM ⟨px, qa, qb, qt, py⟩).2 = lo := ⟨_, rfl⟩
            rw [hT, hlo] at q3 HPLY htl htp
            rw [hT] at HGT hts
            obtain ⟨tx', ta, tb, tt, ty⟩ := T
            obtain ⟨hts1, hts2, hts3⟩ := hts
            have e1 : ty = py := hts1
            have e2 : ta = qa := hts2
            have e3 : tb = qb := hts3
            subst e1; subst e2; subst e3
            have HXN : Hid (px.length = xn) := hxn
            have HYN : Hid (ty.length = yn) := hyn
            have HTP : Hid (tx' = px ∧ lo = [] ∨ tx' = [] ∧ lo = px) := htp
            have HTL : Hid (lo.length ≤ 12) := htl.2
            obtain ⟨⟨c0, c1, c2, c3, c4⟩, f⟩ := hC'
            clear f hPS hgj HI hxn hyn hts1 hts2 hts3 htl htp hT hlo hXM
            go_wp2_with fail
            refine q3.mono ?_
            clear q3 c0 c1 c2 c3 c4
            rintro e w3 ⟨⟨p3, k3, q3, j3, he3, _, _, _, _, hway⟩, hb3⟩
            obtain ⟨tn, htn⟩ : ∃ tn, tx'.length = tn := ⟨_, rfl⟩
            obtain ⟨ln, hln⟩ : ∃ ln, lo.length = ln := ⟨_, rfl⟩
            have he3' : e = .returned (.tuple #[.agg #[.slice p3 tn k3, .int .i64 ta, .int .i64 tb, .int .i64 tt, .slice sa yn sd], .slice q3 ln j3]) := by rw [he3, ← htn, ← hln]
            subst he3'
            have hMX3 := HMX.out.later hb3
            have hown3 : MixOwn w3 (ρ + 1) p3 k3 sa sd ⟨tx', ta, tb, tt, ty⟩ ∧ OwnS w3 (ρ + 1) (.slice q3 ln j3) lo := by
              rcases hway with ⟨rfl, rfl, rfl, rfl, hl0⟩ | ⟨rfl, rfl, rfl, rfl, hp0⟩
              · subst hl0
                obtain rfl : ln = 0 := by rw [← hln]; rfl
                have hpx : tx' = px := by
                  rcases HTP.out with h | h
                  · exact h.1
                  · rw [h.1]; exact h.2
                subst hpx
                exact ⟨⟨hMX3.op, hMX3.os⟩, World.ownsRow_nil _ _ _ _⟩
              · have hp0' : tx' = [] := hp0
                have hlx : lo = px := by
                  rcases HTP.out with h | h
                  · rw [h.2, ← h.1, hp0']
                  · exact h.2
                subst hlx
                subst hp0'
                have h := hMX3.op
                refine ⟨⟨World.ownsRow_nil _ _ _ _, hMX3.os⟩, ?_⟩
                rw [← hln]; exact h
            -- the box of what was ticked, then the store
            have bT := balloc w3 (.cells #[.slice p3 tn k3, .int .i64 ta, .int .i64 tb, .int .i64 tt, .slice sa yn sd] 41)
            have hN := c5_new w3 (.slice p3 tn k3) ta tb tt (.slice sa yn sd) 41 w3.heap.size rfl
            have hC4 := (HC.out.later hb3).later bT
            have hM4 := hown3.1.later bT
            have hQ4 := hown3.2.later bT
            have hO4 := (HOS.out.later hb3).later bT
            have hb4 : Below wr.heap.size wr (w3.alloc (.cells #[.slice p3 tn k3, .int .i64 ta, .int .i64 tb, .int .i64 tt, .slice sa yn sd] 41)) := hb3.alloc hb3.size _
            obtain ⟨V4, hV4⟩ : ∃ V4, w3.alloc (.cells #[.slice p3 tn k3, .int .i64 ta, .int .i64 tb, .int .i64 tt, .slice sa yn sd] 41) = V4 := ⟨_, rfl⟩
            rw [hV4] at hN hC4 hM4 hQ4 hO4 hb4
            have hg5 := put5_grown V4 ρ (.slice p3 tn k3) ta tb tt (.slice sa yn sd)
            have hC5 := hC4.put (.slice p3 tn k3) ta tb tt (.slice sa yn sd)
            have hM5 := hM4.kept hg5 ⟨fun q e => by have := (hM4.lt.1 q e).1; omega, fun q e => by have := (hM4.lt.2 q e).1; omega⟩
            have hQ5 := hQ4.kept hg5 (Or.inr fun e => by have := own_block_geS hQ4 _ e; omega)
            have hO5 := hO4.kept1 hg5 (by omega)
            have hB5 : Below w.heap.size w (put5 V4 ρ (.slice p3 tn k3) ta tb tt (.slice sa yn sd)) := (HB.out.1.trans (hb4.mono HB.out.1.size)).trans (below_grown hg5 HB.out.2.1 (Nat.le_trans HB.out.1.size hb4.size))
            have hz5 : ρ + 1 ≤ (put5 V4 ρ (.slice p3 tn k3) ta tb tt (.slice sa yn sd)).heap.size := Nat.le_trans HB.out.2.2 (Nat.le_trans hb4.size hg5.size)
            obtain ⟨U, hU⟩ : ∃ U, put5 V4 ρ (.slice p3 tn k3) ta tb tt (.slice sa yn sd) = U := ⟨_, rfl⟩
            rw [hU] at hC5 hM5 hQ5 hO5 hB5 hz5
            -- what goes out is copied
            have hE := emptyS U
            have bE := balloc U (.cells #[] 9)
            obtain ⟨E, hEe⟩ : ∃ E, U.alloc (.cells #[] 9) = E := ⟨_, rfl⟩
            rw [hEe] at hE bE
            obtain ⟨v7, w7, r7, o7, g7, b7⟩ := appendS_run E U.heap.size _ [] lo q3 ln j3 hE ((hQ5.rd'.2).later bE) hln hQ5.nil (by simp; have := HTL.out; omega) bE.size
            rw [List.nil_append] at o7
            obtain ⟨q7, j7, hv7⟩ := o7.shape
            rw [hln] at hv7
            subst hv7
            have hb7 : Below U.heap.size U w7 := bE.trans b7
            obtain ⟨v8, w8, r8, o8, g8, b8⟩ := appendSS_run w7 (ρ + 1) U.heap.size (.slice aa k ac) (.slice q7 ln j7) outs lo (hO5.lt.later hb7) o7 hz5 (Nat.le_trans hz5 hb7.size) (by rw [HOL.out]; omega)
            have bL := balloc w7 (.cells #[.slice q7 ln j7] 29)
            have hML := (hM5.later hb7).later bL
            have hrowL : ∃ vs, (w7.alloc (.cells #[.slice q7 ln j7] 29)).ownsRow (ρ + 1) 29 1 (.slice aa k ac) outs.length vs := by
              obtain ⟨vs, _, hrow, _⟩ := (hO5.later hb7).later bL
              exact ⟨vs, hrow⟩
            obtain ⟨vs, hrow⟩ := hrowL
            have hM8 : MixOwn w8 (ρ + 1) p3 k3 sa sd ⟨tx', ta, tb, tt, ty⟩ := ⟨hML.op.kept g8 (row_sep hML.op hrow), hML.os.kept g8 (row_sepI hML.os hrow)⟩
            have hC8 := ((hC5.later hb7).later bL).grown g8 (fun e => by have := HOS.out.ge _ e.symm; omega)
            have hB8 : Below w.heap.size w w8 := ((hB5.trans (hb7.mono hB5.size)).alloc (Nat.le_trans hB5.size hb7.size) _).trans (b8.mono (by have := HB.out.2.1; omega))
            obtain ⟨a8, c8, hv8⟩ := o8.shape
            rw [show (outs ++ [lo]).length = k + 1 by rw [List.length_append, HOL.out]; rfl] at hv8
            subst hv8
            have HI8 : Hid (∃ (z : MixV) (outs : List (List ByteArray)) (pa : Option Addr) (pc : Nat) (sa : Option Addr) (sd : Nat), outs.length = k + 1 ∧ GoodV z ∧ PlayS w8 ρ z pa pc sa sd a8 (k + 1) c8 outs ∧ (playM z (xss.drop (k + 1))).map (outs ++ ·) = R) := by
              refine ⟨⟨tx', ta, tb, tt, ty⟩, outs ++ [lo], p3, k3, sa, sd, by rw [List.length_append, HOL.out]; rfl, HGT.out, ⟨?_, hM8, o8⟩, ?_⟩
              · show C5 w8 ρ (.slice p3 tx'.length k3) ta tb tt (.slice sa ty.length sd)
                rw [htn, HYN.out]; exact hC8
              · rw [← HPLY.out, map_snoc]
            have HB8 : Hid (Below w.heap.size w w8 ∧ w.heap.size ≤ ρ ∧ ρ + 1 ≤ w8.heap.size) := ⟨hB8, HB.out.2.1, by have h1 := g8.size; have h2 := hb7.size; simp at h1; omega⟩
            obtain ⟨⟨n0, n1, n2, n3, n4⟩, nf⟩ := hN
            obtain ⟨⟨c0, c1, c2, c3, c4⟩, f⟩ := hC4
            have f0 := f 0; have f1 := f 1; have f2 := f 2; have f3 := f 3; have f4 := f 4
            unfold put5 at hU
            clear nf f he3 hway hb3 htn hln hMX3 hown3 bT hM4 hQ4 hO4 hb4 hg5 hC5 hM5 hQ5 hO5 hB5 hz5 hE bE o7 g7 b7 hb7 o8 g8 b8 bL hML hrow hM8 hC8 hB8 HC HOS HMX HOL HGT HPLY HB HXN HYN HTP HTL HRO HRN H24 HG
            go_wp2_with (first | (at_builtin; refine Lib.wpList_append_run _ rfl _ _ _ _ rfl _ _ rfl rfl _ _ (r7 _) ?_; clear r7) | (at_builtin; refine Lib.wpList_append_run _ rfl _ _ _ _ rfl _ _ rfl rfl _ _ (r8 _) ?_; clear r8))
            go_roundw
            case rel => exact ⟨k + 1, a8, c8, by omega, by go_num, rfl, HI8, HB8⟩
            case measure => simp [intOf]; omega
    · obtain rfl : k = n := by omega
      rw [playM_end (by rw [HX.out]; exact Nat.le_refl _)] at hPl
      have hRs : R = some outs := by rw [← hPl]; simp
      subst hRs
      have HO : Hid (OwnSS wr w.heap.size (.slice aa k ac) outs) := hPS.out.mono (by have := HB.out.2.1; omega)
      have HOL : Hid (outs.length = k) := hol
      clear hPS hg hPl HI hol
      go_wp2
      refine bodyPost_ret (v := .tuple #[.slice aa k ac, .bool true]) (by simp [results, Try.results15, go_sem]; try rfl) rfl ?_
      exact ⟨⟨aa, ac, by rw [HOL.out], by rw [HOL.out]; exact HO.out⟩, HB.out.1⟩

end Go.Proofs.Ytnppmgnfignbcaa
