/- What chapter 8 draws: a mix. -/
import Derived.Test.YtnppmgnfignbcaaDX8
namespace Go.Proofs.Ytnppmgnfignbcaa
set_option linter.unusedVariables false
set_option maxRecDepth 1000000
set_option linter.unusedSimpArgs false
open Go.RowKit

theorem MxS.set3 {w wr : World} {g ρ n c k d : Nat} {ao p s : Option Addr} {M : Int} {z : MixV} (h : MxS w wr g ρ ao n c M z p k s d) (o : Int) : MxS w (wr.setCell ⟨ρ, 3, none⟩ (.int .i64 o)) g ρ ao n c M { z with old := o } p k s d := by
  obtain ⟨⟨h1, h2⟩, h3, ⟨h4, h5⟩, ⟨h6, h7⟩, h8, h9⟩ := h
  have hg := grown_setCell wr ρ 3 (.int .i64 o)
  exact ⟨⟨h1.set3 o, ⟨h2.op.kept hg (sepS h2.op (by omega)), h2.os.kept hg (sep_own h2.os (by omega))⟩⟩, h3.grown hg (by simp; omega), ⟨h4.grown hg (fun k hk => by simp at hk; omega) h8 h9, h5.grown hg (fun k hk => by simp at hk; omega)⟩, ⟨Nat.le_trans h6 hg.size, h7⟩, h8, h9⟩
theorem row_sepIS {w : World} {b1 b2 : Nat} {u v : Value} {x : List ByteArray} {ys : List Int} (h : Own w b1 u ys) (k : OwnS w b2 v x) : u.ownBlock = none ∨ u.ownBlock ≠ v.ownBlock := by
  rcases h.2 with ⟨rfl, _⟩ | ⟨g, cap, cur, rfl, _, hg, _⟩
  · exact Or.inl rfl
  · rcases k.2 with ⟨rfl, _⟩ | ⟨g', cap', cur', rfl, _, hg', _⟩
    · exact Or.inr (by simp [Value.ownBlock])
    · refine Or.inr fun e => ?_
      simp only [Value.ownBlock, Option.some.injEq] at e
      subst e
      rw [hg] at hg'
      simp at hg'
theorem MxS.app {w wr : World} {g ρ n c k d pn : Nat} {ao p s : Option Addr} {M : Int} {z : MixV} (h : MxS w wr g ρ ao n c M z p k s d) (hp : z.pool.length = pn) (hp2 : pn ≤ 12) (t : ByteArray) :
    ∃ a' c' w', (∀ ty, (Builtin.append_ #[29, 29] ty #[.slice p pn k, .slice (some ⟨wr.heap.size, 0, none⟩) 1 1]).run Try.prog (wr.alloc (.cells #[.string t] 9)) = .ok (.slice a' (pn + 1) c') w') ∧ (∃ q, C5 w' ρ q z.least z.wait z.old (.slice s z.seen.length d)) ∧ MxS w (w'.setCell ⟨ρ, 0, none⟩ (.slice a' (pn + 1) c')) g ρ ao n c M { z with pool := z.pool ++ [t] } a' c' s d := by
  obtain ⟨⟨h1, h2⟩, h3, ⟨h4, h5⟩, ⟨h6, h7⟩, h8, h9⟩ := h
  have bA := balloc wr (.cells #[.string t] 9)
  have hop : OwnS wr (ρ + 1) (.slice p pn k) z.pool := by rw [← hp]; exact h2.op
  obtain ⟨v', w', r1, o1, g1, b1⟩ := appendS_run (wr.alloc (.cells #[.string t] 9)) (ρ + 1) (.slice p pn k) z.pool [t] (some ⟨wr.heap.size, 0, none⟩) 1 1 (hop.later bA) (litS wr t) rfl (fun e => by cases e) (by omega) (Nat.le_trans h6 bA.size)
  obtain ⟨a', c', hv⟩ := o1.shape
  rw [show (z.pool ++ [t]).length = pn + 1 by rw [List.length_append, hp]; rfl] at hv
  subst hv
  have hob : ∀ k', (Value.slice p pn k).ownBlock = some k' → ρ + 1 ≤ k' := own_block_geS hop
  have hos : Own w' (ρ + 1) (.slice s z.seen.length d) z.seen := (h2.os.later bA).kept g1 (row_sepIS (h2.os.later bA) (hop.later bA))
  have c1 := (h1.later bA).grown g1 (fun e => by have := hob _ e.symm; omega)
  have c2 := (h3.later bA).grown g1 (fun e => by have := hob _ e.symm; omega)
  have k1 := (h4.later bA).grown g1 (fun k' hk => by have := hob k' hk; omega) h8 h9
  have k2 := (h5.trans (GB.of_below bA (Nat.le_refl _))).grown g1 (fun k' hk => by have := hob k' hk; omega)
  have hg := grown_setCell w' ρ 0 (.slice a' (pn + 1) c')
  refine ⟨a', c', w', r1, ⟨_, c1⟩, ⟨⟨?_, ⟨?_, hos.kept hg (sep_own hos (by omega))⟩⟩, c2.grown hg (by simp; omega), ⟨k1.grown hg (fun k hk => by simp at hk; omega) h8 h9, k2.grown hg (fun k hk => by simp at hk; omega)⟩, ⟨Nat.le_trans (Nat.le_trans (Nat.le_trans h6 bA.size) g1.size) hg.size, h7⟩, h8, h9⟩⟩
  · show C5 _ _ (.slice a' (z.pool ++ [t]).length c') _ _ _ _
    rw [show (z.pool ++ [t]).length = pn + 1 by rw [List.length_append, hp]; rfl]
    exact c1.set0 _
  · show OwnS _ _ (.slice a' (z.pool ++ [t]).length c') _
    rw [show (z.pool ++ [t]).length = pn + 1 by rw [List.length_append, hp]; rfl]
    exact o1.kept hg (sepS o1 (by omega))
/-- Handed back. -/
theorem MxS.done {w wr : World} {g ρ n c k d pn sn : Nat} {ao p s : Option Addr} {M : Int} {z : MixV} (h : MxS w wr g ρ ao n c M z p k s d) (hp : z.pool.length = pn) (hs : z.seen.length = sn) : MixOwn (put5 wr w.heap.size (.slice p pn k) z.least z.wait z.old (.slice s sn d)) w.heap.size p k s d z ∧ Cur (put5 wr w.heap.size (.slice p pn k) z.least z.wait z.old (.slice s sn d)) g ao n c M ∧ GB g w (put5 wr w.heap.size (.slice p pn k) z.least z.wait z.old (.slice s sn d)) := by
  obtain ⟨⟨h1, h2⟩, h3, ⟨h4, h5⟩, ⟨h6, h7⟩, h8, h9⟩ := h
  have hg := put5_grown wr w.heap.size (.slice p pn k) z.least z.wait z.old (.slice s sn d)
  exact ⟨⟨(h2.op.kept hg (sepS h2.op (by omega))).mono (by omega), (h2.os.kept hg (sep_own h2.os (by omega))).mono (by omega)⟩, h4.grown hg (fun k hk => by simp at hk; omega) h8 h9, h5.grown hg (fun k hk => by simp at hk; omega)⟩

/-- A mix as it is drawn: a good one of the letters, or one whose age or whose pool was turned. -/
def MxD (z : MixV) : Prop := ∃ y, Drawn y ∧ (z = y ∨ (∃ o : Int, -1 ≤ o ∧ o ≤ 11 ∧ z = { y with old := o }) ∨ z = { y with pool := y.pool ++ [(⟨#[97]⟩ : ByteArray)] })
def MixD (g : Nat) (ao : Option Addr) (n c : Nat) (M : Int) (w : World) (e : Ending) (w' : World) : Prop :=
  ∃ z p k s d, e = .returned (.agg #[.slice p z.pool.length k, .int .i64 z.least, .int .i64 z.wait, .int .i64 z.old, .slice s z.seen.length d]) ∧ MxD z ∧ MixOwn w' w.heap.size p k s d z ∧ Cur w' g ao n c (M + 1000) ∧ GB g w w'

set_option maxHeartbeats 8000000 in
set_option maxRecDepth 1000000 in
theorem mix_c (g : Nat) (ao : Option Addr) (n c : Nat) (M : Int) (w : World) (hM : M ≤ 10000) (h : Cur w g ao n c M) :
    Calls Try.prog 68 #[.pointer (some ⟨g, 0, none⟩)] w (MixD g ao n c M w) := by
  have HOB : Hid (Old ao n w.heap.size) := h.code.old
  have hgB : g < w.heap.size := h.lt
  have hR := c5_new w (.slice none 0 0) 0 0 0 (.slice none 0 0) 41 w.heap.size rfl
  have hc0 := h.alloc (.cells #[.slice none 0 0, .int .i64 0, .int .i64 0, .int .i64 0, .slice none 0 0] 41)
  have hg0 := (GB.refl g w).alloc (.cells #[.slice none 0 0, .int .i64 0, .int .i64 0, .int .i64 0, .slice none 0 0] 41)
  obtain ⟨W0, hW0⟩ : ∃ W0, w.alloc (.cells #[.slice none 0 0, .int .i64 0, .int .i64 0, .int .i64 0, .slice none 0 0] 41) = W0 := ⟨_, rfl⟩
  rw [hW0] at hR hc0 hg0
  have HR0 : Hid (C5 W0 w.heap.size (.slice none 0 0) 0 0 0 (.slice none 0 0)) := hR
  have HC0 : Hid (Cur W0 g ao n c M) := hc0
  have HG0 : Hid (GB g w W0) := hg0
  clear h hR hc0 hg0
  go_enter Try.func68, Try.ntmps68
  go_wp2_with fail
  refine (pick_c g ao n c M 6 _ (by omega) (by omega) HC0.out).mono ?_
  rintro e w1 ⟨x, rfl, hx0, hx1, hc1, hg1⟩
  have HC1 : Hid (Cur w1 g ao n c (M + 2)) := hc1
  have HG1 : Hid (GB g w w1) := HG0.out.trans hg1
  have HR1 : Hid (C5 w1 w.heap.size (.slice none 0 0) 0 0 0 (.slice none 0 0)) := HR0.out.grown hg1 (by simp; omega)
  clear hc1 hg1 HC0 HG0 HR0 hW0
  go_wp2_with fail
  refine (pick_c g ao n c (M + 2) 5 _ (by omega) (by omega) HC1.out).mono ?_
  rintro e w2 ⟨y, rfl, hy0, hy1, hc1, hg1⟩
  have HC2 : Hid (Cur w2 g ao n c (M + 4)) := hc1.mono (by omega)
  have HG2 : Hid (GB g w w2) := HG1.out.trans hg1
  have HR2 : Hid (C5 w2 w.heap.size (.slice none 0 0) 0 0 0 (.slice none 0 0)) := HR1.out.grown hg1 (by simp; omega)
  clear hc1 hg1 HC1 HG1 HR1
  have hnb : newB (1 + x) (1 + y) = true := by unfold newB; simp; omega
  have q1 := specNew_c (1 + x) (1 + y) w2
  have hnm : newM (1 + x) (1 + y) = ⟨[], 1 + x, 1 + y, 0, []⟩ := by unfold newM; rw [if_pos hnb]
  rw [hnb, hnm] at q1
  have HD0 : Hid (Drawn ⟨[], 1 + x, 1 + y, 0, []⟩) := Drawn.new hnb
  clear hnb hnm
  go_wp2_with fail
  refine q1.mono ?_
  clear q1
  rintro e w3 ⟨rfl, hb3⟩
  have hR3 := HR2.out.later hb3
  have hC3 := HC2.out.later hb3
  have hG3 : GB g w w3 := HG2.out.trans (GB.of_below hb3 (Nat.le_refl _))
  have hz3 : w.heap.size < w3.heap.size := hR3.lt
  have bV := balloc w3 (.cells #[.slice none 0 0, .int .i64 (1 + x), .int .i64 (1 + y), .int .i64 0, .slice none 0 0] 41)
  have hN := c5_new w3 (.slice none 0 0) (1 + x) (1 + y) 0 (.slice none 0 0) 41 w3.heap.size rfl
  have hS : MxS w (w3.alloc (.cells #[.slice none 0 0, .int .i64 (1 + x), .int .i64 (1 + y), .int .i64 0, .slice none 0 0] 41)) g w3.heap.size ao n c (M + 4) ⟨[], 1 + x, 1 + y, 0, []⟩ none 0 none 0 := ⟨⟨hN, ⟨World.ownsRow_nil _ _ _ _, World.ownsRow_nil _ _ _ _⟩⟩, hR3.later bV, ⟨hC3.later bV, hG3.trans (GB.of_below bV (Nat.le_refl _))⟩, ⟨by simp, hz3⟩, hgB, HOB.out⟩
  obtain ⟨_, _, _, hS3, hS4⟩ := box_same w3 (.slice none 0 0) (1 + x) (1 + y) 0 (.slice none 0 0) 41
  obtain ⟨ρ, hρ⟩ : ∃ ρ, w3.heap.size = ρ := ⟨_, rfl⟩
  obtain ⟨V0, hV0⟩ : ∃ V0, w3.alloc (.cells #[.slice none 0 0, .int .i64 (1 + x), .int .i64 (1 + y), .int .i64 0, .slice none 0 0] 41) = V0 := ⟨_, rfl⟩
  rw [hV0] at hS hS3 hS4 hN
  rw [hρ] at hS hS3 hS4 hN
  have HS0 : Hid (MxS w V0 g ρ ao n c (M + 4) ⟨[], 1 + x, 1 + y, 0, []⟩ none 0 none 0) := hS
  have HCU : Hid (Cur V0 g ao n c (M + 4)) := hS.2.2.1.1
  have hgr : g < ρ := by have := hS.2.2.2.1; omega
  obtain ⟨⟨n0, n1, n2, n3, n4⟩, nf⟩ := hN
  have nf3 := nf 3; have nf4 := nf 4
  clear hR3 hC3 hG3 hz3 bV hS HC2 HG2 HR2 hb3 nf
  go_wp2_with fail
  refine (pick_c g ao n c (M + 4) 10 V0 (by omega) (by omega) HCU.out).mono ?_
  clear HCU hV0 hρ n0 n1 n2 n3 n4 nf3 nf4 hS3 hS4
  rintro e w4 ⟨nn, rfl, hn0, hn1, hc1, hg1⟩
  obtain ⟨m0, rfl⟩ : ∃ m0 : Nat, nn = (m0 : Int) := ⟨nn.toNat, by omega⟩
  have hm0 : m0 ≤ 9 := by omega
  have HS4 : Hid (∃ z p k s d, MxS w w4 g ρ ao n c (M + 6) z p k s d ∧ Drawn z) := ⟨_, _, _, _, _, HS0.out.gb hg1 (hc1.mono (by omega)), HD0.out⟩
  clear hc1 hg1 HS0 HD0 hn0 hn1
  go_wp2
  go_loopw [5] (fun iv wr => ∃ (k r : Nat), r + k = m0 ∧ iv = .int .i64 k ∧ Hid (∃ z p kk s d, MxS w wr g ρ ao n c (M + 6 + 40 * r) z p kk s d ∧ Drawn z)) (fun iv _ => (intOf iv).toNat)
  case atStart => exact ⟨m0, 0, by omega, rfl, by simpa using HS4⟩
  case round =>
    clear HS4
    obtain ⟨k, r, hrk, rfl, HS⟩ := hrel
    have hr9 : (r : Int) ≤ 9 := by omega
    by_cases hlt : 0 < k
    · have k1 : (0 : Int) < (k : Int) := by omega
      have HKR : Hid (r + k = m0 ∧ 0 < k) := ⟨hrk, hlt⟩
      have hk9 : (k : Int) ≤ 9 := by omega
      obtain ⟨z, p, kk, s, d, hS, hD⟩ := HS.out
      have HCU : Hid (Cur wr g ao n c (M + 6 + 40 * r)) := hS.2.2.1.1
      have HS1 : Hid (MxS w wr g ρ ao n c (M + 6 + 40 * r) z p kk s d ∧ Drawn z) := ⟨hS, hD⟩
      clear hrk HS hS hD
      go_wp2_with fail
      refine (letters_c g ao n c 2 (M + 6 + 40 * r) wr (by omega) (by omega) HCU.out).mono ?_
      rintro e wa ⟨la, lq, lc, ls, rfl, hlq, hl3, hll, hlo, hc1, hg1⟩
      have hρ1 : ρ + 1 ≤ wr.heap.size := HS1.out.1.2.2.2.1.1
      have HSA : Hid (∃ z p kk s d, MxS w wa g ρ ao n c (M + 6 + 40 * r + 30) z p kk s d ∧ Drawn z) := ⟨z, p, kk, s, d, HS1.out.1.gb hg1 hc1, HS1.out.2⟩
      have HLO : Hid (OwnS wa (ρ + 1) (.slice la lq lc) ls) := hlo.mono hρ1
      have HLQ : Hid (ls.length = lq) := hlq
      have HLL : Hid (∀ s ∈ ls, IsLet s) := hll
      clear hc1 hg1 hlo hlq hll HS1 HCU hρ1
      go_wp2
      go_loopw [36] (fun iv wr => ∃ j : Nat, j ≤ lq ∧ iv = .int .i64 j ∧ Hid (∃ z p kk s d, MxS w wr g ρ ao n c (M + 6 + 40 * r + 30) z p kk s d ∧ Drawn z) ∧ Hid (OwnS wr (ρ + 1) (.slice la lq lc) ls)) (fun iv _ => lq - (intOf iv).toNat)
      case atStart => exact ⟨0, Nat.zero_le _, rfl, HSA, HLO⟩
      case round =>
        clear HSA HLO
        obtain ⟨j, hj, rfl, HSJ, HLO⟩ := hrel
        obtain ⟨z, p, kk, s, d, hS, hD⟩ := HSJ.out
        clear HSJ
        have hρ1 : ρ + 1 ≤ wr.heap.size := hS.2.2.2.1.1
        have hgd := (goodB_iff z).2 hD.good
        obtain ⟨xs, za, zb, zt, ys⟩ := z
        obtain ⟨pn, hpn⟩ : ∃ pn, xs.length = pn := ⟨_, rfl⟩
        obtain ⟨sn, hsn⟩ : ∃ sn, ys.length = sn := ⟨_, rfl⟩
        have HPN : Hid (xs.length = pn) := hpn
        have HSN : Hid (ys.length = sn) := hsn
        have hop : OwnS wr (ρ + 1) (.slice p pn kk) xs := by have h := hS.1.2.op; rw [← hpn]; exact h
        have hos : Own wr (ρ + 1) (.slice s sn d) ys := by have h := hS.1.2.os; rw [← hsn]; exact h
        have hpb : pn ≤ 12 := by have h := hD.good.many; rw [← hpn]; exact h
        have hsb : sn ≤ 100 := by have h := hD.good.seens; rw [← hsn]; exact h
        have hsz : ∀ s ∈ xs, s.size ≤ 9223372036854775807 := fun s hs => by have := hD.good.short s hs; omega
        have hC : C5 wr ρ (.slice p pn kk) za zb zt (.slice s sn d) := by have h := hS.1.1; rw [← hpn, ← hsn]; exact h
        have HC : Hid (C5 wr ρ (.slice p pn kk) za zb zt (.slice s sn d)) := hC
        have HS1 : Hid (MxS w wr g ρ ao n c (M + 6 + 40 * r + 30) ⟨xs, za, zb, zt, ys⟩ p kk s d ∧ Drawn ⟨xs, za, zb, zt, ys⟩) := ⟨hS, hD⟩
        obtain ⟨⟨c0, c1, c2, c3, c4⟩, f⟩ := hC
        have f0 := f 0; have f1 := f 1; have f2 := f 2; have f3 := f 3; have f4 := f 4
        clear hS hD f
        by_cases hjl : j < lq
        · have hjl' : j < ls.length := by rw [HLQ.out]; exact hjl
          obtain ⟨b', o', hla, g2⟩ := HLO.out.rd'.2.get hjl'
          subst hla
          have hlet := HLL.out _ (mem_getD ByteArray.empty hjl')
          obtain ⟨t, ht⟩ : ∃ t, ls.getD j ByteArray.empty = t := ⟨_, rfl⟩
          rw [ht] at g2 hlet
          have j0 : (0 : Int) ≤ (j : Int) := by omega
          have j1 : (j : Int) < (lq : Int) := by omega
          have ht25 := hlet.size
          cases hsh : shortB t with
          | true =>
            have q1 := specPut_good p s pn kk sn d za zb zt xs ys t wr hpn hsn (by omega) (by omega) hop.rd'.2 hos.rd'.2 hsz (by omega) hop.nil hos.nil hgd hsh
            have HDP : Hid (Drawn (putM ⟨xs, za, zb, zt, ys⟩ t).1) := HS1.out.2.put (hlet.short hsh)
            generalize (putM ⟨xs, za, zb, zt, ys⟩ t).1 = Z at q1 HDP
            generalize (putM ⟨xs, za, zb, zt, ys⟩ t).2 = cd at q1
            obtain ⟨zp, ya, yb, yt, yz⟩ := Z
            clear hop hos hsz hgd hpn hsn hlet hsh hjl' ht
            go_wp2_with fail
            refine q1.mono ?_
            clear q1 c0 c1 c2 c3 c4 f0 f1 f2 f3 f4 g2
            rintro e wb ⟨⟨p3, k3, s3, d3, he, hM3⟩, hb3⟩
            obtain ⟨tn, htn⟩ : ∃ tn, zp.length = tn := ⟨_, rfl⟩
            obtain ⟨tm, htm⟩ : ∃ tm, yz.length = tm := ⟨_, rfl⟩
            have he' : e = .returned (.tuple #[.agg #[.slice p3 tn k3, .int .i64 ya, .int .i64 yb, .int .i64 yt, .slice s3 tm d3], .int .i64 cd, .bool true]) := by rw [he, ← htn, ← htm]
            subst he'
            have bT := balloc wb (.cells #[.slice p3 tn k3, .int .i64 ya, .int .i64 yb, .int .i64 yt, .slice s3 tm d3] 41)
            have hN := c5_new wb (.slice p3 tn k3) ya yb yt (.slice s3 tm d3) 41 wb.heap.size rfl
            have hC4 := (HC.out.later hb3).later bT
            have hS4 := (HS1.out.1.later hb3).later bT
            have hL4 := (HLO.out.later hb3).later bT
            have hM4 := (hM3.mono hρ1).later bT
            have hz4 : ρ + 1 ≤ (wb.alloc (.cells #[.slice p3 tn k3, .int .i64 ya, .int .i64 yb, .int .i64 yt, .slice s3 tm d3] 41)).heap.size := hS4.2.2.2.1.1
            obtain ⟨V4, hV4⟩ : ∃ V4, wb.alloc (.cells #[.slice p3 tn k3, .int .i64 ya, .int .i64 yb, .int .i64 yt, .slice s3 tm d3] 41) = V4 := ⟨_, rfl⟩
            rw [hV4] at hN hC4 hS4 hL4 hM4 hz4
            have hS5 := hS4.put hM4
            have hL5 := hL4.putBox (r := ρ) (by omega) (.slice p3 tn k3) ya yb yt (.slice s3 tm d3)
            have hS5' : MxS w (put5 V4 ρ (.slice p3 tn k3) ya yb yt (.slice s3 tm d3)) g ρ ao n c (M + 6 + 40 * r + 30) ⟨zp, ya, yb, yt, yz⟩ p3 k3 s3 d3 := by
              have h := hS5
              show MxS _ _ _ _ _ _ _ _ _ _ _ _ _
              rw [← htn, ← htm]; exact h
            obtain ⟨U, hU⟩ : ∃ U, put5 V4 ρ (.slice p3 tn k3) ya yb yt (.slice s3 tm d3) = U := ⟨_, rfl⟩
            rw [hU] at hS5' hL5
            have HS5 : Hid (∃ z p kk s d, MxS w U g ρ ao n c (M + 6 + 40 * r + 30) z p kk s d ∧ Drawn z) := ⟨_, _, _, _, _, hS5', HDP.out⟩
            have HL5 : Hid (OwnS U (ρ + 1) (.slice (some ⟨b', o', none⟩) lq lc) ls) := hL5
            obtain ⟨⟨n0, n1, n2, n3, n4⟩, nf⟩ := hN
            obtain ⟨⟨c0, c1, c2, c3, c4⟩, f⟩ := hC4
            have f0 := f 0; have f1 := f 1; have f2 := f 2; have f3 := f 3; have f4 := f 4
            unfold put5 at hU
            clear nf f he htn htm hM3 hb3 bT hS4 hL4 hM4 hz4 hS5 hS5' hL5 HS1 HC HLO HDP HPN HSN
            go_wp2
            go_roundw
            case rel => exact ⟨j + 1, by omega, by go_num, HS5, HL5⟩
            case measure => simp [intOf]; omega
          | false =>
            have q1 := specPut_bad p s pn kk sn d za zb zt xs ys t wr hpn hsn (by omega) (by omega) hop.rd'.2 hos.rd'.2 hsz (by omega) (by rw [hsh]; simp)
            generalize MixV.zero = Z at q1
            obtain ⟨zp, ya, yb, yt, yz⟩ := Z
            clear hop hos hsz hgd hpn hsn hlet hsh hjl' ht
            go_wp2_with fail
            refine q1.mono ?_
            clear q1 c0 c1 c2 c3 c4 f0 f1 f2 f3 f4 g2
            rintro e wb ⟨⟨p3, k3, s3, d3, he, hM3⟩, hb3⟩
            obtain ⟨tn, htn⟩ : ∃ tn, zp.length = tn := ⟨_, rfl⟩
            obtain ⟨tm, htm⟩ : ∃ tm, yz.length = tm := ⟨_, rfl⟩
            have he' : e = .returned (.tuple #[.agg #[.slice p3 tn k3, .int .i64 ya, .int .i64 yb, .int .i64 yt, .slice s3 tm d3], .int .i64 0, .bool false]) := by rw [he, ← htn, ← htm]
            subst he'
            have bT := balloc wb (.cells #[.slice p3 tn k3, .int .i64 ya, .int .i64 yb, .int .i64 yt, .slice s3 tm d3] 41)
            have HS5 : Hid (∃ z p kk s d, MxS w (wb.alloc (.cells #[.slice p3 tn k3, .int .i64 ya, .int .i64 yb, .int .i64 yt, .slice s3 tm d3] 41)) g ρ ao n c (M + 6 + 40 * r + 30) z p kk s d ∧ Drawn z) := ⟨_, _, _, _, _, (HS1.out.1.later hb3).later bT, HS1.out.2⟩
            have HL5 : Hid (OwnS (wb.alloc (.cells #[.slice p3 tn k3, .int .i64 ya, .int .i64 yb, .int .i64 yt, .slice s3 tm d3] 41)) (ρ + 1) (.slice (some ⟨b', o', none⟩) lq lc) ls) := (HLO.out.later hb3).later bT
            clear he htn htm hM3 hb3 bT HS1 HC HLO HPN HSN
            go_wp2
            go_roundw
            case rel => exact ⟨j + 1, by omega, by go_num, HS5, HL5⟩
            case measure => simp [intOf]; omega
        · obtain rfl : j = lq := by omega
          have j1 : ¬ (j : Int) < (j : Int) := by omega
          have q1 := specTick_c p s pn kk sn d za zb zt xs ys wr hpn hsn (by omega) (by omega) hop.rd'.2 hos.rd'.2 hsz hop.nil hos.nil
          have htf : tickF ⟨xs, za, zb, zt, ys⟩ = ((tickM ⟨xs, za, zb, zt, ys⟩).1, (tickM ⟨xs, za, zb, zt, ys⟩).2, true) := by unfold tickF; rw [if_pos hgd]
          rw [htf] at q1
          have HDP : Hid (Drawn (tickM ⟨xs, za, zb, zt, ys⟩).1) := HS1.out.2.tick
          generalize (tickM ⟨xs, za, zb, zt, ys⟩).1 = Z at q1 HDP
          generalize (tickM ⟨xs, za, zb, zt, ys⟩).2 = lo at q1
          obtain ⟨zp, ya, yb, yt, yz⟩ := Z
          clear hop hos hsz hgd hpn hsn htf
          go_wp2_with fail
          refine q1.mono ?_
          clear q1 c0 c1 c2 c3 c4 f0 f1 f2 f3 f4
          rintro e wb ⟨⟨p3, k3, s3, d3, l3, e3, he, ho3, hp3, _, _⟩, hb3⟩
          have hM3 : MixOwn wb wr.heap.size p3 k3 s3 d3 ⟨zp, ya, yb, yt, yz⟩ := ⟨ho3, hp3⟩
          obtain ⟨tn, htn⟩ : ∃ tn, zp.length = tn := ⟨_, rfl⟩
          obtain ⟨tm, htm⟩ : ∃ tm, yz.length = tm := ⟨_, rfl⟩
          obtain ⟨ln, hln⟩ : ∃ ln, lo.length = ln := ⟨_, rfl⟩
          have he' : e = .returned (.tuple #[.agg #[.slice p3 tn k3, .int .i64 ya, .int .i64 yb, .int .i64 yt, .slice s3 tm d3], .slice l3 ln e3, .bool true]) := by rw [he, ← htn, ← htm, ← hln]
          subst he'
          have bT := balloc wb (.cells #[.slice p3 tn k3, .int .i64 ya, .int .i64 yb, .int .i64 yt, .slice s3 tm d3] 41)
          have hN := c5_new wb (.slice p3 tn k3) ya yb yt (.slice s3 tm d3) 41 wb.heap.size rfl
          have hS4 := (HS1.out.1.later hb3).later bT
          have hM4 := (hM3.mono hρ1).later bT
          have hgx : g < wb.heap.size := by have := hS4.2.2.2.2.1; have := hS4.2.2.2.1.2; have := hb3.size; omega
          obtain ⟨V4, hV4⟩ : ∃ V4, wb.alloc (.cells #[.slice p3 tn k3, .int .i64 ya, .int .i64 yb, .int .i64 yt, .slice s3 tm d3] 41) = V4 := ⟨_, rfl⟩
          rw [hV4] at hN hS4 hM4
          obtain ⟨xb, hxb⟩ : ∃ xb, wb.heap.size = xb := ⟨_, rfl⟩
          rw [hxb] at hN hgx
          have HN : Hid (C5 V4 xb (.slice p3 tn k3) ya yb yt (.slice s3 tm d3)) := hN
          have HS4 : Hid (MxS w V4 g ρ ao n c (M + 6 + 40 * r + 30) ⟨xs, za, zb, zt, ys⟩ p kk s d ∧ Drawn ⟨xs, za, zb, zt, ys⟩) := ⟨hS4, HS1.out.2⟩
          have HM4 : Hid (MixOwn V4 (ρ + 1) p3 k3 s3 d3 ⟨zp, ya, yb, yt, yz⟩) := hM4
          have HTN : Hid (zp.length = tn) := htn
          have HTM : Hid (yz.length = tm) := htm
          have HCU : Hid (Cur V4 g ao n c (M + 6 + 40 * r + 30)) := hS4.2.2.1.1
          clear he htn htm hln hM3 hb3 bT hS4 hM4 hN ho3 hp3 HS1 HC HLO HPN HSN
          go_wp2_with fail
          refine (one_c g ao n c (M + 6 + 40 * r + 30) 2 _ (by omega) (by omega) HCU.out).mono ?_
          clear HCU hV4 hxb
          rintro e wc ⟨bb, rfl, hc1, hg1⟩
          have hN5 := HN.out.grown hg1 (by simp; omega)
          have hS5 := HS4.out.1.gb hg1 (hc1.mono (show M + 6 + 40 * r + 30 + 2 ≤ M + 6 + 40 * ((r + 1 : Nat) : Int) by omega))
          have hM5 : MixOwn wc (ρ + 1) p3 k3 s3 d3 ⟨zp, ya, yb, yt, yz⟩ := ⟨HM4.out.op.kept hg1 (sepS HM4.out.op (by omega)), HM4.out.os.kept hg1 (sep_own HM4.out.os (by omega))⟩
          cases bb with
          | false =>
            have HS6 : Hid (∃ z p kk s d, MxS w wc g ρ ao n c (M + 6 + 40 * ((r + 1 : Nat) : Int)) z p kk s d ∧ Drawn z) := ⟨_, _, _, _, _, hS5, HS4.out.2⟩
            clear hc1 hg1 hN5 hS5 hM5 HN HS4 HM4 HDP
            go_wp2
            go_roundw
            case rel => exact ⟨k - 1, r + 1, by have := HKR.out; omega, by have := HKR.out; go_num, HS6⟩
            case measure => have := HKR.out; simp [intOf]; omega
          | true =>
            have hS6 : MxS w (put5 wc ρ (.slice p3 tn k3) ya yb yt (.slice s3 tm d3)) g ρ ao n c (M + 6 + 40 * ((r + 1 : Nat) : Int)) ⟨zp, ya, yb, yt, yz⟩ p3 k3 s3 d3 := by
              have h := hS5.put hM5
              show MxS _ _ _ _ _ _ _ _ _ _ _ _ _
              rw [← HTN.out, ← HTM.out]; exact h
            have hC5 : ∃ a1 a2 a3 a4 a5, C5 wc ρ a1 a2 a3 a4 a5 := ⟨_, _, _, _, _, hS5.1.1⟩
            obtain ⟨a1, a2, a3, a4, a5, hC5⟩ := hC5
            obtain ⟨U, hU⟩ : ∃ U, put5 wc ρ (.slice p3 tn k3) ya yb yt (.slice s3 tm d3) = U := ⟨_, rfl⟩
            rw [hU] at hS6
            have HS6 : Hid (∃ z p kk s d, MxS w U g ρ ao n c (M + 6 + 40 * ((r + 1 : Nat) : Int)) z p kk s d ∧ Drawn z) := ⟨_, _, _, _, _, hS6, HDP.out⟩
            obtain ⟨⟨n0, n1, n2, n3, n4⟩, nf⟩ := hN5
            obtain ⟨⟨c0, c1, c2, c3, c4⟩, f⟩ := hC5
            have f0 := f 0; have f1 := f 1; have f2 := f 2; have f3 := f 3; have f4 := f 4
            unfold put5 at hU
            clear hc1 hg1 nf f hS5 hM5 HN HS4 HM4 HDP hS6
            go_wp2
            go_roundw
            case rel => exact ⟨k - 1, r + 1, by have := HKR.out; omega, by have := HKR.out; go_num, HS6⟩
            case measure => have := HKR.out; simp [intOf]; omega
    · have k1 : (k : Int) ≤ 0 := by omega
      obtain rfl : k = 0 := by omega
      obtain ⟨z, p, kk, s, d, hS, hD⟩ := HS.out
      have HCU : Hid (Cur wr g ao n c (M + 6 + 40 * r)) := hS.2.2.1.1
      obtain ⟨xs, za, zb, zt, ys⟩ := z
      obtain ⟨pn, hpn⟩ : ∃ pn, xs.length = pn := ⟨_, rfl⟩
      obtain ⟨sn, hsn⟩ : ∃ sn, ys.length = sn := ⟨_, rfl⟩
      have HPN : Hid (xs.length = pn) := hpn
      have HSN : Hid (ys.length = sn) := hsn
      have hpb : pn ≤ 12 := by have h := hD.good.many; rw [← hpn]; exact h
      have HDD : Hid (Drawn ⟨xs, za, zb, zt, ys⟩) := hD
      have HS1 : Hid (MxS w wr g ρ ao n c (M + 6 + 40 * r) ⟨xs, za, zb, zt, ys⟩ p kk s d) := hS
      clear HS hS hD hpn hsn hrk
      go_wp2_with fail
      refine (pick_c g ao n c (M + 6 + 40 * r) 30 _ (by omega) (by omega) HCU.out).mono ?_
      clear HCU
      rintro e w5 ⟨v, rfl, v0, v1, hc1, hg1⟩
      have HS5 : Hid (MxS w w5 g ρ ao n c (M + 900) ⟨xs, za, zb, zt, ys⟩ p kk s d) := HS1.out.gb hg1 (hc1.mono (by omega))
      clear hc1 hg1 HS1
      by_cases hv0 : v = 0
      · subst hv0
        have hlit := lit_cells (fun o => -1 ≤ o ∧ o ≤ 11) w5 #[.int .i64 (-1), .int .i64 0, .int .i64 10, .int .i64 11] 3 4 rfl (by simp [allP])
        have hcu := HS5.out.2.2.1.1.alloc (.cells #[.int .i64 (-1), .int .i64 0, .int .i64 10, .int .i64 11] 3)
        have hgx : g < w5.heap.size := HS5.out.2.2.1.1.lt
        have bL := balloc w5 (.cells #[.int .i64 (-1), .int .i64 0, .int .i64 10, .int .i64 11] 3)
        have HSL : Hid (MxS w (w5.alloc (.cells #[.int .i64 (-1), .int .i64 0, .int .i64 10, .int .i64 11] 3)) g ρ ao n c (M + 900) ⟨xs, za, zb, zt, ys⟩ p kk s d) := HS5.out.later bL
        go_wp2_with fail
        refine (among_p (fun o => -1 ≤ o ∧ o ≤ 11) g ao n c (M + 900) w5.heap.size 4 _ (by omega) (by omega) hlit (by omega) hcu).mono ?_
        clear hlit hcu bL
        rintro e w6 ⟨o, rfl, ho, hc1, hg1⟩
        have hS6 := HSL.out.gb hg1 hc1
        have hS7 := hS6.set3 o
        obtain ⟨⟨_, _, _, m3, _⟩, mf⟩ := hS6.1.1
        have mf3 := mf 3
        obtain ⟨U, hU⟩ : ∃ U, w6.setCell ⟨ρ, 3, none⟩ (.int .i64 o) = U := ⟨_, rfl⟩
        rw [hU] at hS7
        have HSU : Hid (MxS w U g ρ ao n c (M + 900 + 2) ⟨xs, za, zb, o, ys⟩ p kk s d) := hS7
        have HPU : Hid (xs.length = pn) := HPN
        have HDU : Hid (MxD ⟨xs, za, zb, o, ys⟩) := ⟨_, HDD.out, Or.inr (Or.inl ⟨o, ho.1, ho.2, rfl⟩)⟩
        clear hS6 hS7 mf hc1 hg1 HSL HS5 HDD ho
        have hC7 : C5 U ρ (.slice p pn kk) za zb o (.slice s sn d) := by have h := HSU.out.1.1; rw [← HPU.out, ← HSN.out]; exact h
        have hE7 := HSU.out.2.1
        obtain ⟨⟨c0, c1, c2, c3, c4⟩, f⟩ := hC7
        obtain ⟨⟨e0, e1, e2, e3, e4⟩, ef⟩ := hE7
        have ef0 := ef 0; have ef1 := ef 1; have ef2 := ef 2; have ef3 := ef 3; have ef4 := ef 4
        clear f ef
        go_wp2
        refine bodyPost_ret (v := .agg #[.slice p (pn) kk, .int .i64 za, .int .i64 zb, .int .i64 o, .slice s sn d]) (by simp [results, Try.results68, go_sem, e0, e1, e2, e3, e4]; try rfl) rfl ?_
        obtain ⟨hd1, hd2, hd3⟩ := HSU.out.done HPU.out HSN.out
        exact ⟨⟨xs, za, zb, o, ys⟩, p, kk, s, d, by show _ = Ending.returned (.agg #[.slice p (xs).length kk, .int .i64 za, .int .i64 zb, .int .i64 o, .slice s ys.length d]); rw [HPU.out, HSN.out], HDU.out, hd1, hd2.mono (by omega), hd3⟩
      · have hvb : (v == 0) = false := by simpa using hv0
        by_cases hv1 : v = 1
        · subst hv1
          obtain ⟨a', c', w6, r1, ⟨qq, hCC⟩, hS7⟩ := HS5.out.app HPN.out hpb ⟨#[97]⟩
          have hC5 : C5 w5 ρ (.slice p pn kk) za zb zt (.slice s sn d) := by have h := HS5.out.1.1; rw [← HPN.out, ← HSN.out]; exact h
          have bL := balloc w5 (.cells #[.string ⟨#[97]⟩] 9)
          have hC6 := hC5.later bL
          obtain ⟨⟨m0', _, _, _, _⟩, _⟩ := hC5
          obtain ⟨⟨x0, _, _, _, _⟩, xf⟩ := hCC
          have xf0 := xf 0
          obtain ⟨U, hU⟩ : ∃ U, w6.setCell ⟨ρ, 0, none⟩ (.slice a' (pn + 1) c') = U := ⟨_, rfl⟩
          rw [hU] at hS7
          have HSU : Hid (MxS w U g ρ ao n c (M + 900) ⟨xs ++ [(⟨#[97]⟩ : ByteArray)], za, zb, zt, ys⟩ a' c' s d) := hS7
          have HPU : Hid ((xs ++ [(⟨#[97]⟩ : ByteArray)]).length = pn + 1) := by show _ = _; rw [List.length_append, HPN.out]; rfl
          have HDU : Hid (MxD ⟨xs ++ [(⟨#[97]⟩ : ByteArray)], za, zb, zt, ys⟩) := ⟨_, HDD.out, Or.inr (Or.inr rfl)⟩
          clear hS7 xf HS5 HDD bL hC6
          have hC7 : C5 U ρ (.slice a' (pn + 1) c') za zb zt (.slice s sn d) := by have h := HSU.out.1.1; rw [← HPU.out, ← HSN.out]; exact h
          have hE7 := HSU.out.2.1
          obtain ⟨⟨c0, c1, c2, c3, c4⟩, f⟩ := hC7
          obtain ⟨⟨e0, e1, e2, e3, e4⟩, ef⟩ := hE7
          have ef0 := ef 0; have ef1 := ef 1; have ef2 := ef 2; have ef3 := ef 3; have ef4 := ef 4
          clear f ef
          go_wp2_with (at_builtin; refine Lib.wpList_append_run _ rfl _ _ _ _ rfl _ _ rfl rfl _ _ (r1 _) ?_; clear r1)
          refine bodyPost_ret (v := .agg #[.slice a' ((pn + 1)) c', .int .i64 za, .int .i64 zb, .int .i64 zt, .slice s sn d]) (by simp [results, Try.results68, go_sem, e0, e1, e2, e3, e4]; try rfl) rfl ?_
          obtain ⟨hd1, hd2, hd3⟩ := HSU.out.done HPU.out HSN.out
          exact ⟨⟨xs ++ [(⟨#[97]⟩ : ByteArray)], za, zb, zt, ys⟩, a', c', s, d, by show _ = Ending.returned (.agg #[.slice a' (xs ++ [(⟨#[97]⟩ : ByteArray)]).length c', .int .i64 za, .int .i64 zb, .int .i64 zt, .slice s ys.length d]); rw [HPU.out, HSN.out], HDU.out, hd1, hd2.mono (by omega), hd3⟩
        · have hvc : (v == 1) = false := by simpa using hv1
          obtain ⟨U, hU⟩ : ∃ U, U = w5 := ⟨w5, rfl⟩
          have HSU : Hid (MxS w U g ρ ao n c (M + 900) ⟨xs, za, zb, zt, ys⟩ p kk s d) := by show MxS _ _ _ _ _ _ _ _ _ _ _ _ _; rw [hU]; exact HS5.out
          subst hU
          have HPU : Hid (xs.length = pn) := HPN
          have HDU : Hid (MxD ⟨xs, za, zb, zt, ys⟩) := ⟨_, HDD.out, Or.inl rfl⟩
          clear HS5 HDD
          have hC7 : C5 U ρ (.slice p pn kk) za zb zt (.slice s sn d) := by have h := HSU.out.1.1; rw [← HPU.out, ← HSN.out]; exact h
          have hE7 := HSU.out.2.1
          obtain ⟨⟨c0, c1, c2, c3, c4⟩, f⟩ := hC7
          obtain ⟨⟨e0, e1, e2, e3, e4⟩, ef⟩ := hE7
          have ef0 := ef 0; have ef1 := ef 1; have ef2 := ef 2; have ef3 := ef 3; have ef4 := ef 4
          clear f ef
          go_wp2
          refine bodyPost_ret (v := .agg #[.slice p (pn) kk, .int .i64 za, .int .i64 zb, .int .i64 zt, .slice s sn d]) (by simp [results, Try.results68, go_sem, e0, e1, e2, e3, e4]; try rfl) rfl ?_
          obtain ⟨hd1, hd2, hd3⟩ := HSU.out.done HPU.out HSN.out
          exact ⟨⟨xs, za, zb, zt, ys⟩, p, kk, s, d, by show _ = Ending.returned (.agg #[.slice p (xs).length kk, .int .i64 za, .int .i64 zb, .int .i64 zt, .slice s ys.length d]); rw [HPU.out, HSN.out], HDU.out, hd1, hd2.mono (by omega), hd3⟩

end Go.Proofs.Ytnppmgnfignbcaa
