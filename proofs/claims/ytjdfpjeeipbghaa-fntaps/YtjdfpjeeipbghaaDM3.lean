/- What the law FnTaps draws. -/
import Derived.Test.YtjdfpjeeipbghaaDT3
import Derived.Test.YtjdfpjeeipbghaaST3S
import Derived.Test.YtjdfpjeeipbghaaSM3
namespace Go.Proofs.Ytjdfpjeeipbghaa
set_option linter.unusedVariables false
set_option linter.unusedSimpArgs false
open Go.RowKit

theorem sep_top {w : World} {B : Nat} {v : Value} {xs : List Int} (h : Own w B v xs) {g : Nat} (hg : w.heap.size ≤ g) : v.ownBlock = none ∨ v.ownBlock ≠ some g := by
  rcases hb : v.ownBlock with _ | b
  · exact Or.inl rfl
  · exact Or.inr (fun e => by have := (World.ownsRow.lt h b hb).2; simp at e; omega)
theorem sep_topB {w : World} {B : Nat} {v : Value} {xs : List Bool} (h : OwnB w B v xs) {g : Nat} (hg : w.heap.size ≤ g) : v.ownBlock = none ∨ v.ownBlock ≠ some g := by
  rcases hb : v.ownBlock with _ | b
  · exact Or.inl rfl
  · exact Or.inr (fun e => by have := (World.ownsRow.lt h b hb).2; simp at e; omega)

theorem own_setB {w : World} {base g r cap : Nat} {l : List Bool} (h : OwnB w base (.slice (some ⟨g, 0, none⟩) r cap) l) (i : Nat) (x : Bool) : OwnB (w.setCell ⟨g, i, none⟩ (.bool x)) base (.slice (some ⟨g, 0, none⟩) r cap) (l.set i x) := by
  have hr := h.rd'.1
  have hst := World.ownsRow.stored (by have h' := h; unfold OwnB at h'; rw [hr] at h'; exact h' : w.ownsRow base 4 1 (.slice (some ⟨g, 0, none⟩) r cap) r (cellsB l)) i (.bool x)
  unfold OwnB
  rw [List.length_set, hr, ← cellsB_set]
  exact hst.1

theorem old_mono {ao : Option Addr} {n B C : Nat} (h : Old ao n B) (hb : B ≤ C) : Old ao n C := by
  rcases h with h | ⟨b, off, e, hl⟩
  · exact Or.inl h
  · exact Or.inr ⟨b, off, e, by omega⟩

set_option maxHeartbeats 4000000 in
theorem drawStreamOf2_c (ao : Option Addr) (n c : Nat) (w : World) (hn : n ≤ 9223372036854775807) (h : CodeOk w w.heap.size ao n) :
    Calls Try.prog 19 #[.slice ao n c] w fun e w' => (∃ a0 n0 c0 xs a' q c' zs many, e = .returned (.tuple #[.slice a0 n0 c0, .slice a' q c', .int .i64 many]) ∧ n0 ≤ 5 ∧ q ≤ 60 ∧ zs.length = q ∧ -1 ≤ many ∧ many ≤ 41 ∧ Own w' w.heap.size (.slice a0 n0 c0) xs ∧ OwnB w' w.heap.size (.slice a' q c') zs ∧ 0 ≤ topT xs ∧ topT xs ≤ 13) ∧ Below w.heap.size w w' := by
  have HC : Hid (Cur (w.alloc (.cells #[.slice ao n c, .int .i64 0, .int .u64 0] 65)) w.heap.size ao n c 0) := cur_new _ hn h
  have HG : Hid (GB w.heap.size w (w.alloc (.cells #[.slice ao n c, .int .i64 0, .int .u64 0] 65))) := (GB.refl _ _).alloc _
  have hz : w.heap.size + 1 ≤ (w.alloc (.cells #[.slice ao n c, .int .i64 0, .int .u64 0] 65)).heap.size := by simp
  clear h
  go_enter Try.func19, Try.ntmps19
  go_wp2_with (first | (go_at_call 60; refine (taps_c w.heap.size ao n c _ _ (by omega) HC.out).mono ?_; rintro e w1 ⟨a0, n0, c0, y0, rfl, hn0, ho1, hp1, hc1, hg1⟩; have OT : Hid (Own w1 (w.heap.size + 1) (.slice a0 n0 c0) y0) := ho1.mono hz; have htb := top_bd hp1; have HTB : Hid (0 ≤ topT y0 ∧ topT y0 ≤ 13) := htb; have htc := l3Top_c a0 n0 c0 y0 w1 ho1.rd'.1 (by omega) ho1.rd'.2; generalize topT y0 = tt at htb htc; obtain ⟨ht0, ht1⟩ := htb; have HTC : Hid (Calls Try.prog 57 #[.slice a0 n0 c0] w1 fun e w' => e = .returned (.int .i64 tt) ∧ w' = w1) := htc; replace hz : w.heap.size + 1 ≤ w1.heap.size := Nat.le_trans hz hg1.size; replace HC : Hid (Cur w1 w.heap.size ao n c _) := hc1; replace HG : Hid (GB w.heap.size w w1) := HG.out.trans hg1; clear ho1 hp1 hc1 hg1 htc) | (go_at_call 57; refine HTC.out.mono ?_; rintro e w' ⟨rfl, hw⟩; subst w'; clear HTC) | (go_at_call 50; refine (pick_c w.heap.size ao n c _ _ _ (by omega) (by omega) HC.out).mono ?_; rintro e w2 ⟨x, rfl, hx0, hx1, hc1, hg1⟩; replace OT : Hid (Own w2 (w.heap.size + 1) (.slice a0 n0 c0) y0) := OT.out.kept hg1 (sep_own OT.out (by omega)); replace hz : w.heap.size + 1 ≤ w2.heap.size := Nat.le_trans hz hg1.size; replace HC : Hid (Cur w2 w.heap.size ao n c _) := hc1; replace HG : Hid (GB w.heap.size w w2) := HG.out.trans hg1; clear hc1 hg1) | (go_at_call 52; obtain ⟨q, hq⟩ : ∃ q : Nat, tt + x / 8 = q := ⟨(tt + x / 8).toNat, by omega⟩; rw [hq]; refine (bits_c w.heap.size ao n c q _ _ (by omega) (by omega) HC.out).mono ?_; rintro e w3 ⟨a1, c1, z1, rfl, hl1, ho1, hc1, hg1⟩; have O1 : Hid (OwnB w3 (w.heap.size + 1) (.slice a1 q c1) z1) := ho1.mono hz; have HLO1 : Hid (z1.length = q) := hl1; replace OT : Hid (Own w3 (w.heap.size + 1) (.slice a0 n0 c0) y0) := OT.out.kept hg1 (sep_own OT.out (by omega)); replace hz : w.heap.size + 1 ≤ w3.heap.size := Nat.le_trans hz hg1.size; replace HC : Hid (Cur w3 w.heap.size ao n c _) := hc1; replace HG : Hid (GB w.heap.size w w3) := HG.out.trans hg1; clear hl1 ho1 hc1 hg1) | (go_at_call 61; refine (among_p (fun u => -1 ≤ u ∧ u ≤ 41) w.heap.size ao n c _ w3.heap.size 6 _ (by omega) (by omega) (lit_cells _ _ _ _ _ rfl (by simp [allP])) (by have := HC.out.lt; simp at this ⊢; omega) (HC.out.alloc _)).mono ?_; rintro e w4 ⟨y, rfl, hy, hc1, hg1⟩; replace OT : Hid (Own w4 (w.heap.size + 1) (.slice a0 n0 c0) y0) := (OT.out.later (balloc _ _)).kept hg1 (sep_own OT.out (by omega)); replace O1 : Hid (OwnB w4 (w.heap.size + 1) (.slice a1 q c1) z1) := (O1.out.later (balloc _ _)).kept hg1 (sep_ownB O1.out (by omega)); replace hz : w.heap.size + 1 ≤ w4.heap.size := Nat.le_trans hz (Nat.le_trans (by simp) hg1.size); replace HC : Hid (Cur w4 w.heap.size ao n c _) := hc1; replace HG : Hid (GB w.heap.size w w4) := (HG.out.alloc _).trans hg1; clear hc1 hg1))
  refine bodyPost_ret (v := .tuple #[.slice a0 n0 c0, .slice a1 q c1, .int .i64 y]) (by simp [results, Try.results19, go_sem]) rfl ⟨⟨a0, n0, c0, y0, a1, q, c1, z1, y, rfl, hn0, by omega, HLO1.out, hy.1, hy.2, OT.out.mono (by omega), O1.out.mono (by omega), HTB.out.1, HTB.out.2⟩, HG.out.below (Nat.le_refl _) (Nat.le_refl _)⟩

theorem draw_below {w w1 w' : World} {g : Nat} (h1 : Below w.heap.size w w1) (h2 : GB g w1 w') (hg : w1.heap.size ≤ g) : Below w.heap.size w w' := h1.trans ((h2.below (Nat.le_refl _) hg).mono h1.size)

set_option maxHeartbeats 4000000 in
theorem drawShortest_c (ao : Option Addr) (n c : Nat) (w : World) (hn : n ≤ 9223372036854775807) (h : CodeOk w w.heap.size ao n) :
    Calls Try.prog 14 #[.slice ao n c] w fun e w' => (∃ a' q c' zs, e = .returned (.slice a' q c') ∧ q ≤ 60 ∧ zs.length = q ∧ OwnB w' w.heap.size (.slice a' q c') zs) ∧ Below w.heap.size w w' := by
  have HW : Hid (CodeOk w w.heap.size ao n) := h
  clear h
  go_enter Try.func14, Try.ntmps14
  go_wp2_with fail
  refine (drawStreamOf2_c ao n c _ hn HW.out).mono ?_
  rintro e w1 ⟨⟨a0, n0, c0, xs, a1, q1, c1, fs, many, rfl, hn0, hq1, hl1, hm0, hm1, ho, hob, ht0, ht1⟩, hb⟩
  have HC : Hid (Cur (w1.alloc (.cells #[.slice ao n c, .int .i64 0, .int .u64 0] 65)) w1.heap.size ao n c 0) := cur_new _ hn (HW.out.later hb hb.size)
  have HG : Hid (GB w1.heap.size w1 (w1.alloc (.cells #[.slice ao n c, .int .i64 0, .int .u64 0] 65))) := (GB.refl _ _).alloc _
  have RX : Hid (Own w1 w.heap.size (.slice a0 n0 c0) xs) := ho
  have RF : Hid (OwnB w1 w.heap.size (.slice a1 q1 c1) fs) := hob
  have HL1 : Hid (fs.length = q1) := hl1
  have HB1 : Hid (Below w.heap.size w w1) := hb
  have HTT : Hid (0 ≤ topT xs ∧ topT xs ≤ 13) := ⟨ht0, ht1⟩
  have hz : w1.heap.size + 1 ≤ (w1.alloc (.cells #[.slice ao n c, .int .i64 0, .int .u64 0] 65)).heap.size := by simp
  clear ho hob hl1 hb ht0 ht1
  go_wp2_with fail
  refine (pick_c w1.heap.size ao n c _ 36 _ (by omega) (by omega) HC.out).mono ?_
  rintro e w2 ⟨z, rfl, hz0, hz1, hc1, hg1⟩
  replace hz : w1.heap.size + 1 ≤ w2.heap.size := Nat.le_trans hz hg1.size
  replace HC : Hid (Cur w2 w1.heap.size ao n c _) := hc1
  replace HG : Hid (GB w1.heap.size w1 w2) := HG.out.trans hg1
  have RX2 : Hid (Own w2 w.heap.size (.slice a0 n0 c0) xs) := RX.out.kept HG.out (sep_top RX.out (Nat.le_refl _))
  have RF2 : Hid (OwnB w2 w.heap.size (.slice a1 q1 c1) fs) := RF.out.kept HG.out (sep_topB RF.out (Nat.le_refl _))
  clear hc1 hg1 RX RF
  obtain ⟨zs, fb, hF⟩ : ∃ zs fb, streamF xs fs z = (zs, fb) := ⟨_, _, rfl⟩
  have HF : Hid (streamF xs fs z = (zs, fb)) := hF
  obtain ⟨p, hp⟩ : ∃ p, zs.length = p := ⟨_, rfl⟩
  have HP : Hid (zs.length = p) := hp
  have hp4 : p ≤ 40 := by rw [← hp]; exact streamF_short hF
  clear hF hp
  go_wp2_with fail
  refine (specStream_c a0 n0 c0 a1 q1 c1 z xs fs _ RX2.out.rd'.1 HL1.out (by omega) (by omega) RX2.out.rd'.2 RF2.out.rd'.2 zs fb p HF.out HP.out).mono ?_
  rintro e w3 ⟨a2, c2, rfl, ho, hb⟩
  have hs23 : w2.heap.size ≤ w3.heap.size := hb.size
  have RG : Hid (OwnB w3 w2.heap.size (.slice a2 p c2) zs) := ho
  replace HC : Hid (Cur w3 w1.heap.size ao n c _) := HC.out.later hb
  replace HG : Hid (GB w1.heap.size w1 w3) := HG.out.trans (GB.of_below hb (Nat.le_refl _))
  have RX3 : Hid (Own w3 w.heap.size (.slice a0 n0 c0) xs) := RX2.out.later hb
  clear ho hb RX2 RF2 HF
  cases fb
  · clear RX3
    go_wp2_with fail
    refine (pick_c w1.heap.size ao n c _ 24 _ (by omega) (by omega) HC.out).mono ?_
    rintro e w5 ⟨u, rfl, hu0, hu1, hc1, hg1⟩
    have hsw5 := hg1.size
    replace HC : Hid (Cur w5 w1.heap.size ao n c _) := hc1
    replace HG : Hid (GB w1.heap.size w1 w5) := HG.out.trans hg1
    clear hc1 hg1
    go_wp2_with fail
    refine (one_c w1.heap.size ao n c _ 20 _ (by omega) (by omega) HC.out).mono ?_
    rintro e w6 ⟨v, rfl, hc1, hg1⟩
    have hsw6 := hg1.size
    replace HC : Hid (Cur w6 w1.heap.size ao n c _) := hc1
    replace HG : Hid (GB w1.heap.size w1 w6) := HG.out.trans hg1
    clear hc1 hg1
    cases v
    · skip
      obtain ⟨q, hq⟩ : ∃ q : Nat, u = q := ⟨(u).toNat, by omega⟩
      go_wp2_with fail
      try rw [hq]
      refine (bits_c w1.heap.size ao n c q _ _ (by omega) (by omega) HC.out).mono ?_
      rintro e w7 ⟨a3, c3, z3, rfl, hl3, ho3, hc1, hg1⟩
      have O3 : Hid (z3.length = q ∧ OwnB w7 w.heap.size (.slice a3 q c3) z3) := ⟨hl3, ho3.mono (by have := HB1.out.size; omega)⟩
      replace HG : Hid (GB w1.heap.size w1 w7) := HG.out.trans hg1
      clear hc1 hg1 hl3 ho3 HC
      go_wp2
      go_ret
      exact ⟨⟨a3, q, c3, z3, rfl, by omega, O3.out.1, O3.out.2⟩, draw_below HB1.out HG.out (Nat.le_refl _)⟩
    · skip
      go_wp2_with fail
      refine (pick_c w1.heap.size ao n c _ 2 _ (by omega) (by omega) HC.out).mono ?_
      rintro e w7 ⟨x, rfl, hx0, hx1, hc1, hg1⟩
      have hsw7 := hg1.size
      replace HC : Hid (Cur w7 w1.heap.size ao n c _) := hc1
      replace HG : Hid (GB w1.heap.size w1 w7) := HG.out.trans hg1
      clear hc1 hg1
      obtain ⟨q, hq⟩ : ∃ q : Nat, 40 + x = q := ⟨(40 + x).toNat, by omega⟩
      go_wp2_with fail
      try rw [hq]
      refine (bits_c w1.heap.size ao n c q _ _ (by omega) (by omega) HC.out).mono ?_
      rintro e w8 ⟨a3, c3, z3, rfl, hl3, ho3, hc1, hg1⟩
      have O3 : Hid (z3.length = q ∧ OwnB w8 w.heap.size (.slice a3 q c3) z3) := ⟨hl3, ho3.mono (by have := HB1.out.size; omega)⟩
      replace HG : Hid (GB w1.heap.size w1 w8) := HG.out.trans hg1
      clear hc1 hg1 hl3 ho3 HC
      go_wp2
      go_ret
      exact ⟨⟨a3, q, c3, z3, rfl, by omega, O3.out.1, O3.out.2⟩, draw_below HB1.out HG.out (Nat.le_refl _)⟩
  · clear RX3
    go_wp2_with fail
    refine (one_c w1.heap.size ao n c _ 2 _ (by omega) (by omega) HC.out).mono ?_
    rintro e w4 ⟨b, rfl, hc1, hg1⟩
    have hsw4 := hg1.size
    replace HC : Hid (Cur w4 w1.heap.size ao n c _) := hc1
    replace HG : Hid (GB w1.heap.size w1 w4) := HG.out.trans hg1
    replace RG : Hid (OwnB w4 w2.heap.size (.slice a2 p c2) zs) := RG.out.kept hg1 (sep_ownB RG.out (by omega))
    clear hc1 hg1
    cases b
    · skip
      go_wp2_with fail
      refine (pick_c w1.heap.size ao n c _ 24 _ (by omega) (by omega) HC.out).mono ?_
      rintro e w5 ⟨u, rfl, hu0, hu1, hc1, hg1⟩
      have hsw5 := hg1.size
      replace HC : Hid (Cur w5 w1.heap.size ao n c _) := hc1
      replace HG : Hid (GB w1.heap.size w1 w5) := HG.out.trans hg1
      clear hc1 hg1
      go_wp2_with fail
      refine (one_c w1.heap.size ao n c _ 20 _ (by omega) (by omega) HC.out).mono ?_
      rintro e w6 ⟨v, rfl, hc1, hg1⟩
      have hsw6 := hg1.size
      replace HC : Hid (Cur w6 w1.heap.size ao n c _) := hc1
      replace HG : Hid (GB w1.heap.size w1 w6) := HG.out.trans hg1
      clear hc1 hg1
      cases v
      · skip
        obtain ⟨q, hq⟩ : ∃ q : Nat, u = q := ⟨(u).toNat, by omega⟩
        go_wp2_with fail
        try rw [hq]
        refine (bits_c w1.heap.size ao n c q _ _ (by omega) (by omega) HC.out).mono ?_
        rintro e w7 ⟨a3, c3, z3, rfl, hl3, ho3, hc1, hg1⟩
        have O3 : Hid (z3.length = q ∧ OwnB w7 w.heap.size (.slice a3 q c3) z3) := ⟨hl3, ho3.mono (by have := HB1.out.size; omega)⟩
        replace HG : Hid (GB w1.heap.size w1 w7) := HG.out.trans hg1
        clear hc1 hg1 hl3 ho3 HC
        go_wp2
        go_ret
        exact ⟨⟨a3, q, c3, z3, rfl, by omega, O3.out.1, O3.out.2⟩, draw_below HB1.out HG.out (Nat.le_refl _)⟩
      · skip
        go_wp2_with fail
        refine (pick_c w1.heap.size ao n c _ 2 _ (by omega) (by omega) HC.out).mono ?_
        rintro e w7 ⟨x, rfl, hx0, hx1, hc1, hg1⟩
        have hsw7 := hg1.size
        replace HC : Hid (Cur w7 w1.heap.size ao n c _) := hc1
        replace HG : Hid (GB w1.heap.size w1 w7) := HG.out.trans hg1
        clear hc1 hg1
        obtain ⟨q, hq⟩ : ∃ q : Nat, 40 + x = q := ⟨(40 + x).toNat, by omega⟩
        go_wp2_with fail
        try rw [hq]
        refine (bits_c w1.heap.size ao n c q _ _ (by omega) (by omega) HC.out).mono ?_
        rintro e w8 ⟨a3, c3, z3, rfl, hl3, ho3, hc1, hg1⟩
        have O3 : Hid (z3.length = q ∧ OwnB w8 w.heap.size (.slice a3 q c3) z3) := ⟨hl3, ho3.mono (by have := HB1.out.size; omega)⟩
        replace HG : Hid (GB w1.heap.size w1 w8) := HG.out.trans hg1
        clear hc1 hg1 hl3 ho3 HC
        go_wp2
        go_ret
        exact ⟨⟨a3, q, c3, z3, rfl, by omega, O3.out.1, O3.out.2⟩, draw_below HB1.out HG.out (Nat.le_refl _)⟩
    · go_wp2
      go_ret
      exact ⟨⟨a2, p, c2, zs, rfl, by omega, HP.out, RG.out.mono (by have := HB1.out.size; omega)⟩, draw_below HB1.out HG.out (Nat.le_refl _)⟩
    
set_option maxHeartbeats 4000000 in
theorem drawMakes_c (ao : Option Addr) (n c : Nat) (w : World) (hn : n ≤ 9223372036854775807) (h : CodeOk w w.heap.size ao n) :
    Calls Try.prog 20 #[.slice ao n c] w fun e w' => (∃ a0 n0 c0 xs many a' q c' zs, e = .returned (.tuple #[.slice a0 n0 c0, .int .i64 many, .slice a' q c']) ∧ n0 ≤ 5 ∧ q ≤ 60 ∧ zs.length = q ∧ Own w' w.heap.size (.slice a0 n0 c0) xs ∧ OwnB w' w.heap.size (.slice a' q c') zs) ∧ Below w.heap.size w w' := by
  have HW : Hid (CodeOk w w.heap.size ao n) := h
  clear h
  go_enter Try.func20, Try.ntmps20
  go_wp2_with fail
  refine (drawStreamOf2_c ao n c _ hn HW.out).mono ?_
  rintro e w1 ⟨⟨a0, n0, c0, xs, a1, q1, c1, fs, many, rfl, hn0, hq1, hl1, hm0, hm1, ho, hob, ht0, ht1⟩, hb⟩
  have HC : Hid (Cur (w1.alloc (.cells #[.slice ao n c, .int .i64 0, .int .u64 0] 65)) w1.heap.size ao n c 0) := cur_new _ hn (HW.out.later hb hb.size)
  have HG : Hid (GB w1.heap.size w1 (w1.alloc (.cells #[.slice ao n c, .int .i64 0, .int .u64 0] 65))) := (GB.refl _ _).alloc _
  have RX : Hid (Own w1 w.heap.size (.slice a0 n0 c0) xs) := ho
  have RF : Hid (OwnB w1 w.heap.size (.slice a1 q1 c1) fs) := hob
  have HL1 : Hid (fs.length = q1) := hl1
  have HB1 : Hid (Below w.heap.size w w1) := hb
  have HTT : Hid (0 ≤ topT xs ∧ topT xs ≤ 13) := ⟨ht0, ht1⟩
  have hz : w1.heap.size + 1 ≤ (w1.alloc (.cells #[.slice ao n c, .int .i64 0, .int .u64 0] 65)).heap.size := by simp
  clear ho hob hl1 hb ht0 ht1
  go_wp2_with fail
  refine (pick_c w1.heap.size ao n c _ 30 _ (by omega) (by omega) HC.out).mono ?_
  rintro e w2 ⟨z, rfl, hz0, hz1, hc1, hg1⟩
  replace hz : w1.heap.size + 1 ≤ w2.heap.size := Nat.le_trans hz hg1.size
  replace HC : Hid (Cur w2 w1.heap.size ao n c _) := hc1
  replace HG : Hid (GB w1.heap.size w1 w2) := HG.out.trans hg1
  have RX2 : Hid (Own w2 w.heap.size (.slice a0 n0 c0) xs) := RX.out.kept HG.out (sep_top RX.out (Nat.le_refl _))
  have RF2 : Hid (OwnB w2 w.heap.size (.slice a1 q1 c1) fs) := RF.out.kept HG.out (sep_topB RF.out (Nat.le_refl _))
  have HSX0 : Hid ((Value.slice a0 n0 c0).ownBlock = none ∨ (Value.slice a0 n0 c0).ownBlock ≠ some w1.heap.size) := sep_top RX.out (Nat.le_refl _)
  have HSY : Hid (∀ g, w2.heap.size ≤ g → ((Value.slice a0 n0 c0).ownBlock = none ∨ (Value.slice a0 n0 c0).ownBlock ≠ some g)) := fun g hg => sep_top RX.out (by omega)
  have HOLD : Hid (Old ao n w2.heap.size) := old_mono (CodeOk.old HW.out) (by have := HB1.out.size; omega)
  clear hc1 hg1 RX RF
  obtain ⟨zs, fb, hF⟩ : ∃ zs fb, streamF xs fs z = (zs, fb) := ⟨_, _, rfl⟩
  have HF : Hid (streamF xs fs z = (zs, fb)) := hF
  obtain ⟨p, hp⟩ : ∃ p, zs.length = p := ⟨_, rfl⟩
  have HP : Hid (zs.length = p) := hp
  have hp4 : p ≤ 40 := by rw [← hp]; exact streamF_short hF
  clear hF hp
  go_wp2_with fail
  refine (specStream_c a0 n0 c0 a1 q1 c1 z xs fs _ RX2.out.rd'.1 HL1.out (by omega) (by omega) RX2.out.rd'.2 RF2.out.rd'.2 zs fb p HF.out HP.out).mono ?_
  rintro e w3 ⟨a2, c2, rfl, ho, hb⟩
  have hs23 : w2.heap.size ≤ w3.heap.size := hb.size
  have RG : Hid (OwnB w3 w2.heap.size (.slice a2 p c2) zs) := ho
  replace HC : Hid (Cur w3 w1.heap.size ao n c _) := HC.out.later hb
  replace HG : Hid (GB w1.heap.size w1 w3) := HG.out.trans (GB.of_below hb (Nat.le_refl _))
  have RX3 : Hid (Own w3 w.heap.size (.slice a0 n0 c0) xs) := RX2.out.later hb
  clear ho hb RX2 RF2 HF
  have HSX : Hid (∀ _ : Unit, (Value.slice a0 n0 c0).ownBlock = none ∨ (Value.slice a0 n0 c0).ownBlock ≠ some w1.heap.size) := fun _ => HSX0.out
  by_cases hp0 : p = 0
  · have hp0' : ¬ (0 : Int) < (p : Int) := by omega
    clear hp0
    obtain ⟨tt, htt⟩ : ∃ tt, topT xs = tt := ⟨_, rfl⟩
    have htc := fun wx hr => l3Top_c a0 n0 c0 xs wx RX3.out.rd'.1 (by omega) hr
    rw [htt] at htc
    have HTC : Hid (∀ wx, Rd wx a0 xs → Calls Try.prog 57 #[.slice a0 n0 c0] wx fun e w' => e = .returned (.int .i64 tt) ∧ w' = wx) := htc
    have ht : 0 ≤ tt ∧ tt ≤ 13 := by rw [← htt]; exact HTT.out
    obtain ⟨ht0, ht1⟩ := ht
    clear htc htt HTT
    go_wp2_with fail
    refine (HTC.out _ RX3.out.rd'.2).mono ?_
    rintro e w' ⟨rfl, hw⟩
    subst w'
    go_wp2_with fail
    refine (pick_c w1.heap.size ao n c _ 3 _ (by omega) (by omega) HC.out).mono ?_
    rintro e w8 ⟨u, rfl, hu0, hu1, hc1, hg1⟩
    have hsw8 := hg1.size
    replace HC : Hid (Cur w8 w1.heap.size ao n c _) := hc1
    replace HG : Hid (GB w1.heap.size w1 w8) := HG.out.trans hg1
    replace RX3 : Hid (Own w8 w.heap.size (.slice a0 n0 c0) xs) := RX3.out.kept hg1 (HSX.out ())
    replace RG : Hid (OwnB w8 w2.heap.size (.slice a2 p c2) zs) := RG.out.kept hg1 (sep_ownB RG.out (by omega))
    clear hc1 hg1
    go_wp2_with fail
    refine (pick_c w1.heap.size ao n c _ 9 _ (by omega) (by omega) HC.out).mono ?_
    rintro e w9 ⟨v, rfl, hv0, hv1, hc1, hg1⟩
    have hsw9 := hg1.size
    replace HC : Hid (Cur w9 w1.heap.size ao n c _) := hc1
    replace HG : Hid (GB w1.heap.size w1 w9) := HG.out.trans hg1
    replace RX3 : Hid (Own w9 w.heap.size (.slice a0 n0 c0) xs) := RX3.out.kept hg1 (HSX.out ())
    replace RG : Hid (OwnB w9 w2.heap.size (.slice a2 p c2) zs) := RG.out.kept hg1 (sep_ownB RG.out (by omega))
    clear hc1 hg1
    go_wp2
    refine bodyPost_ret (v := .tuple #[.slice a0 n0 c0, .int .i64 (tt + u - v / 8), .slice a2 p c2]) (by simp [results, Try.results20, go_sem]) rfl ⟨⟨a0, n0, c0, xs, _, a2, p, c2, zs, rfl, hn0, by omega, HP.out, RX3.out, RG.out.mono (by have := HB1.out.size; omega)⟩, draw_below HB1.out HG.out (Nat.le_refl _)⟩
  · have hp0' : (0 : Int) < (p : Int) := by omega
    obtain ⟨gG, rfl, hpc, hcm⟩ := own_someB RG.out (by omega)
    unfold maxLen at hcm
    go_wp2_with fail
    refine (one_c w1.heap.size ao n c _ 4 _ (by omega) (by omega) HC.out).mono ?_
    rintro e w4 ⟨b, rfl, hc1, hg1⟩
    have hsw4 := hg1.size
    replace HC : Hid (Cur w4 w1.heap.size ao n c _) := hc1
    replace HG : Hid (GB w1.heap.size w1 w4) := HG.out.trans hg1
    replace RX3 : Hid (Own w4 w.heap.size (.slice a0 n0 c0) xs) := RX3.out.kept hg1 (HSX.out ())
    replace RG : Hid (OwnB w4 w2.heap.size (.slice (some ⟨gG, 0, none⟩) p c2) zs) := RG.out.kept hg1 (sep_ownB RG.out (by omega))
    clear hc1 hg1
    cases b
    · skip
      obtain ⟨tt, htt⟩ : ∃ tt, topT xs = tt := ⟨_, rfl⟩
      have htc := fun wx hr => l3Top_c a0 n0 c0 xs wx RX3.out.rd'.1 (by omega) hr
      rw [htt] at htc
      have HTC : Hid (∀ wx, Rd wx a0 xs → Calls Try.prog 57 #[.slice a0 n0 c0] wx fun e w' => e = .returned (.int .i64 tt) ∧ w' = wx) := htc
      have ht : 0 ≤ tt ∧ tt ≤ 13 := by rw [← htt]; exact HTT.out
      obtain ⟨ht0, ht1⟩ := ht
      clear htc htt HTT
      go_wp2_with fail
      refine (HTC.out _ RX3.out.rd'.2).mono ?_
      rintro e w' ⟨rfl, hw⟩
      subst w'
      go_wp2_with fail
      refine (pick_c w1.heap.size ao n c _ 3 _ (by omega) (by omega) HC.out).mono ?_
      rintro e w8 ⟨u, rfl, hu0, hu1, hc1, hg1⟩
      have hsw8 := hg1.size
      replace HC : Hid (Cur w8 w1.heap.size ao n c _) := hc1
      replace HG : Hid (GB w1.heap.size w1 w8) := HG.out.trans hg1
      replace RX3 : Hid (Own w8 w.heap.size (.slice a0 n0 c0) xs) := RX3.out.kept hg1 (HSX.out ())
      replace RG : Hid (OwnB w8 w2.heap.size (.slice (some ⟨gG, 0, none⟩) p c2) zs) := RG.out.kept hg1 (sep_ownB RG.out (by omega))
      clear hc1 hg1
      go_wp2_with fail
      refine (pick_c w1.heap.size ao n c _ 9 _ (by omega) (by omega) HC.out).mono ?_
      rintro e w9 ⟨v, rfl, hv0, hv1, hc1, hg1⟩
      have hsw9 := hg1.size
      replace HC : Hid (Cur w9 w1.heap.size ao n c _) := hc1
      replace HG : Hid (GB w1.heap.size w1 w9) := HG.out.trans hg1
      replace RX3 : Hid (Own w9 w.heap.size (.slice a0 n0 c0) xs) := RX3.out.kept hg1 (HSX.out ())
      replace RG : Hid (OwnB w9 w2.heap.size (.slice (some ⟨gG, 0, none⟩) p c2) zs) := RG.out.kept hg1 (sep_ownB RG.out (by omega))
      clear hc1 hg1
      go_wp2
      refine bodyPost_ret (v := .tuple #[.slice a0 n0 c0, .int .i64 (tt + u - v / 8), .slice (some ⟨gG, 0, none⟩) p c2]) (by simp [results, Try.results20, go_sem]) rfl ⟨⟨a0, n0, c0, xs, _, some ⟨gG, 0, none⟩, p, c2, zs, rfl, hn0, by omega, HP.out, RX3.out, RG.out.mono (by have := HB1.out.size; omega)⟩, draw_below HB1.out HG.out (Nat.le_refl _)⟩
    · have RG' := RG.out
      obtain ⟨y, hy⟩ : ∃ y, zs.getD (p - 1) false = y := ⟨_, rfl⟩
      have gc : w4.cell? ⟨gG, p - 1, none⟩ = some (.bool y) := by
        have h := RG'
        rw [← HP.out] at h
        rw [← hy, OwnB.cell h (p - 1) (by rw [HP.out]; omega)]
      have gf : w4.frozen? ⟨gG, p - 1, none⟩ = false := by
        have h := RG'
        rw [← HP.out] at h
        exact OwnB.free h _
      have hp1 : (0 : Int) ≤ (p : Int) - 1 := by omega
      have hgG : w2.heap.size ≤ gG := own_block_geB RG' gG rfl
      replace RG : Hid (OwnB (w4.setCell ⟨gG, p - 1, none⟩ (.bool (!y))) w2.heap.size (.slice (some ⟨gG, 0, none⟩) p c2) (zs.set (p - 1) (!y))) := own_setB RG' _ _
      have hgb : w4.grownBy (w4.setCell ⟨gG, p - 1, none⟩ (.bool (!y))) (some gG) := (GB.refl gG w4).setCell _ _
      replace RX3 : Hid (Own (w4.setCell ⟨gG, p - 1, none⟩ (.bool (!y))) w.heap.size (.slice a0 n0 c0) xs) := RX3.out.kept hgb (HSY.out gG hgG)
      replace HC : Hid (Cur (w4.setCell ⟨gG, p - 1, none⟩ (.bool (!y))) w1.heap.size ao n c _) := HC.out.grown (B := w2.heap.size) hgb (fun k hk => by simp at hk; omega) (by omega) HOLD.out
      replace HG : Hid (GB w1.heap.size w1 (w4.setCell ⟨gG, p - 1, none⟩ (.bool (!y)))) := HG.out.grown hgb (fun k hk => by simp at hk; omega)
      clear RG' hgb hy
      have hn1 : ((p : Int) - 1).toNat = p - 1 := by omega
      obtain ⟨tt, htt⟩ : ∃ tt, topT xs = tt := ⟨_, rfl⟩
      have htc := fun wx hr => l3Top_c a0 n0 c0 xs wx RX3.out.rd'.1 (by omega) hr
      rw [htt] at htc
      have HTC : Hid (∀ wx, Rd wx a0 xs → Calls Try.prog 57 #[.slice a0 n0 c0] wx fun e w' => e = .returned (.int .i64 tt) ∧ w' = wx) := htc
      have ht : 0 ≤ tt ∧ tt ≤ 13 := by rw [← htt]; exact HTT.out
      obtain ⟨ht0, ht1⟩ := ht
      clear htc htt HTT
      go_wp2_with fail
      refine (HTC.out _ RX3.out.rd'.2).mono ?_
      rintro e w' ⟨rfl, hw⟩
      subst w'
      go_wp2_with fail
      refine (pick_c w1.heap.size ao n c _ 3 _ (by omega) (by omega) HC.out).mono ?_
      rintro e w8 ⟨u, rfl, hu0, hu1, hc1, hg1⟩
      have hsw8 := hg1.size
      replace HC : Hid (Cur w8 w1.heap.size ao n c _) := hc1
      replace HG : Hid (GB w1.heap.size w1 w8) := HG.out.trans hg1
      replace RX3 : Hid (Own w8 w.heap.size (.slice a0 n0 c0) xs) := RX3.out.kept hg1 (HSX.out ())
      replace RG : Hid (OwnB w8 w2.heap.size (.slice (some ⟨gG, 0, none⟩) p c2) (zs.set (p - 1) (!y))) := RG.out.kept hg1 (sep_ownB RG.out (by omega))
      clear hc1 hg1
      go_wp2_with fail
      refine (pick_c w1.heap.size ao n c _ 9 _ (by omega) (by omega) HC.out).mono ?_
      rintro e w9 ⟨v, rfl, hv0, hv1, hc1, hg1⟩
      have hsw9 := hg1.size
      replace HC : Hid (Cur w9 w1.heap.size ao n c _) := hc1
      replace HG : Hid (GB w1.heap.size w1 w9) := HG.out.trans hg1
      replace RX3 : Hid (Own w9 w.heap.size (.slice a0 n0 c0) xs) := RX3.out.kept hg1 (HSX.out ())
      replace RG : Hid (OwnB w9 w2.heap.size (.slice (some ⟨gG, 0, none⟩) p c2) (zs.set (p - 1) (!y))) := RG.out.kept hg1 (sep_ownB RG.out (by omega))
      clear hc1 hg1
      go_wp2
      refine bodyPost_ret (v := .tuple #[.slice a0 n0 c0, .int .i64 (tt + u - v / 8), .slice (some ⟨gG, 0, none⟩) p c2]) (by simp [results, Try.results20, go_sem]) rfl ⟨⟨a0, n0, c0, xs, _, some ⟨gG, 0, none⟩, p, c2, (zs.set (p - 1) (!y)), rfl, hn0, by omega, by rw [List.length_set]; exact HP.out, RX3.out, RG.out.mono (by have := HB1.out.size; omega)⟩, draw_below HB1.out HG.out (Nat.le_refl _)⟩

end Go.Proofs.Ytjdfpjeeipbghaa
