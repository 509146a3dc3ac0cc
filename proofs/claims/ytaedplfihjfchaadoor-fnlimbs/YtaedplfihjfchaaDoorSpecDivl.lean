/- Twice a number and a bit; the quotient and the rest, bit by bit: the specification's. -/
import Derived.Test.YtaedplfihjfchaaDoorBigOfl
import Derived.Test.YtaedplfihjfchaaDoorSpecLessl
import Derived.Test.YtaedplfihjfchaaDoorNumDl
import Derived.Deep.LoopGhost
namespace Go.Proofs.YtaedplfihjfchaaDoor
set_option linter.unusedVariables false
set_option maxRecDepth 1000000
set_option linter.unusedSimpArgs false
open Go.RowKit

theorem bigL_short9 {n : Int} (h0 : 0 ≤ n) (h : n < 79228162514264337593543950336 * 79228162514264337593543950336) : (bigL n).length ≤ 100000000 := by
  have := digits_short n.toNat n 12 (by
    have e : (65536 : Int) ^ 12 = 79228162514264337593543950336 * 79228162514264337593543950336 := by decide
    rw [e]; exact h)
  unfold bigL
  omega

theorem i64_and1 (n : Int) : bits .and .i64 n 1 = n % 2 := by
  have h1 : (BitVec.ofInt 64 1).toNat = 2 ^ 1 - 1 := by decide
  have key : (BitVec.ofInt 64 n &&& BitVec.ofInt 64 1).toNat = (n % ((2 ^ 64 : Nat) : Int)).toNat % 2 ^ 1 := by
    rw [BitVec.toNat_and, BitVec.toNat_ofInt, h1, Nat.and_two_pow_sub_one_eq_mod]
  show IntKind.i64.wrap ((BitVec.ofInt 64 n &&& BitVec.ofInt 64 1).toNat : Nat) = n % 2
  rw [key, IntKind.wrap_i64]
  omega

theorem Rd.at {w : World} {ao : Option Addr} {xs : List Int} {n : Nat} (h : Rd w ao xs) (hx : xs.length = n) (hn : 0 < n) : ∃ b o, ao = some ⟨b, o, none⟩ ∧ ∀ j, j < n → w.cell? ⟨b, o + j, none⟩ = some (.int .i64 (xs.getD j 0)) := by
  rcases h with rfl | ⟨b, o, rfl, hc⟩
  · simp at hx; omega
  · exact ⟨b, o, rfl, by rw [← hx]; exact hc⟩

set_option maxHeartbeats 1000000 in
theorem l1Twice_c (ao : Option Addr) (n c : Nat) (xs : List Int) (b : Int) (w : World) (hx : xs.length = n) (hn : n ≤ 100000000) (hr : Rd w ao xs) (dx : Digs xs) (hb0 : 0 ≤ b) (hb1 : b ≤ 1) (hv : val xs < 79228162514264337593543950336 * 39614081257132168796771975168) (p : Nat) (hp : (bigL (2 * val xs + b)).length = p) :
    Calls Tryd.prog 54 #[.slice ao n c, .int .i64 b] w fun e w' => ∃ a' c', e = .returned (.slice a' p c') ∧ Own w' w.heap.size (.slice a' p c') (bigL (2 * val xs + b)) ∧ Below w.heap.size w w' := by
  have hv0 := val_nonneg dx
  have HX : Hid (xs.length = n) := hx
  have HR : Hid (Rd w ao xs) := hr
  have HD : Hid (Digs xs) := dx
  have HP3 : Hid ((bigL (2 * val xs + b)).length = p) := hp
  obtain ⟨p1, hp1⟩ : ∃ p1, (bigL (val xs + val xs)).length = p1 := ⟨_, rfl⟩
  obtain ⟨p2, hp2⟩ : ∃ p2, (bigL b).length = p2 := ⟨_, rfl⟩
  have b1 := bigL_spec (n := val xs + val xs) (by omega)
  have b2 := bigL_spec hb0
  have E3 : Hid (val (bigL (val xs + val xs)) + val (bigL b) = 2 * val xs + b) := by show _ = _; rw [b1.2.1, b2.2.1]; omega
  have D1 : Hid (Digs (bigL (val xs + val xs)) ∧ Digs (bigL b)) := ⟨b1.1, b2.1⟩
  have hp18 : p1 ≤ 100000000 := by rw [← hp1]; exact bigL_short9 (by omega) (by omega)
  have hp28 : p2 ≤ 100000000 := by rw [← hp2]; exact bigL_short9 hb0 (by omega)
  have HP1 : Hid ((bigL (val xs + val xs)).length = p1) := hp1
  have HP2 : Hid ((bigL b).length = p2) := hp2
  have HB : Hid (Below w.heap.size w w) := Below.refl _ _
  have tok1 : True := trivial
  clear hx hr dx hp b1 b2 hp1 hp2 hv hv0
  go_enter Tryd.func54, Tryd.ntmps54
  go_wp2_with (first | (go_at_call 33; have _t := tok1; refine (l1Add_c ao ao n n c c xs xs _ HX.out HX.out (by omega) (by omega) HR.out HR.out HD.out HD.out p1 HP1.out).mono ?_; rintro e w1 ⟨a1, c1, rfl, ho, hb⟩; have O1 : Hid (Own w1 w.heap.size (.slice a1 p1 c1) (bigL (val xs + val xs))) := ho; replace HB : Hid (Below w.heap.size w w1) := HB.out.trans (hb.mono HB.out.size); have hsw1 : w.heap.size ≤ w1.heap.size := HB.out.size; clear ho hb tok1 _t) | (go_at_call 51; refine (l1Of_c b _ hb0 (by omega) p2 HP2.out).mono ?_; rintro e w2 ⟨a2, c2, rfl, ho, hb⟩; have O2 : Hid (Own w2 w.heap.size (.slice a2 p2 c2) (bigL b)) := ho.mono HB.out.size; replace O1 : Hid (Own w2 w.heap.size (.slice a1 p1 c1) (bigL (val xs + val xs))) := O1.out.later hb; replace HB : Hid (Below w.heap.size w w2) := HB.out.trans (hb.mono HB.out.size); have hsw2 : w.heap.size ≤ w2.heap.size := HB.out.size; clear ho hb) | (go_at_call 33; refine (l1Add_c a1 a2 p1 p2 c1 c2 (bigL (val xs + val xs)) (bigL b) _ HP1.out HP2.out (by omega) (by omega) O1.out.rd'.2 O2.out.rd'.2 D1.out.1 D1.out.2 p (by rw [E3.out]; exact HP3.out)).mono ?_; rw [E3.out]; rintro e w3 ⟨a3, c3, rfl, ho, hb⟩; have O3 : Hid (Own w3 w.heap.size (.slice a3 p c3) (bigL (2 * val xs + b))) := ho.mono HB.out.size; replace HB : Hid (Below w.heap.size w w3) := HB.out.trans (hb.mono HB.out.size); have hsw3 : w.heap.size ≤ w3.heap.size := HB.out.size; clear ho hb))
  go_ret
  exact ⟨a3, c3, rfl, O3.out, HB.out⟩
  
theorem tdiv16 (k : Nat) : ((k : Int)).tdiv 16 = ((k / 16 : Nat) : Int) := by rw [Int.tdiv_eq_ediv_of_nonneg (by omega)]; omega
theorem tmod16 (k : Nat) : ((k : Int)).tmod 16 = ((k % 16 : Nat) : Int) := by rw [Int.tmod_eq_emod_of_nonneg (by omega)]; omega

set_option maxHeartbeats 2000000 in
set_option maxRecDepth 1000000 in
theorem l1Div_c (ao bo : Option Addr) (n m c d : Nat) (xs ys : List Int) (w : World) (hx : xs.length = n) (hy : ys.length = m) (hn : n ≤ 1000) (hm : m ≤ 1000) (hr : Rd w ao xs) (hs : Rd w bo ys) (dx : Digs xs) (dy : Digs ys) (cy : trim ys = ys) (hy0 : 0 < val ys) (hvx : val xs < 79228162514264337593543950336 * 19807040628566084398385987584) (p q : Nat) (hp : (bigL (val xs / val ys)).length = p) (hq : (bigL (val xs % val ys)).length = q) :
    Calls Tryd.prog 35 #[.slice ao n c, .slice bo m d] w fun e w' => ∃ a1 c1 a2 c2, e = .returned (.tuple #[.slice a1 p c1, .slice a2 q c2]) ∧ Own w' w.heap.size (.slice a1 p c1) (bigL (val xs / val ys)) ∧ Own w' w.heap.size (.slice a2 q c2) (bigL (val xs % val ys)) ∧ Below w.heap.size w w' := by
  have HX : Hid (xs.length = n) := hx
  have HY : Hid (ys.length = m) := hy
  have HR : Hid (Rd w ao xs) := hr
  have HS : Hid (Rd w bo ys) := hs
  have HDX : Hid (Digs xs) := dx
  have HDY : Hid (Digs ys ∧ trim ys = ys) := ⟨dy, cy⟩
  have HV : Hid (0 < val ys ∧ val xs < 79228162514264337593543950336 * 19807040628566084398385987584) := ⟨hy0, hvx⟩
  have HP : Hid ((bigL (val xs / val ys)).length = p ∧ (bigL (val xs % val ys)).length = q) := ⟨hp, hq⟩
  have HTOP : Hid (hiV xs (16 * n) = 0) := by show _ = _; rw [← hx]; exact hiV_top xs
  clear hx hy hr hs dx dy cy hy0 hvx hp hq
  go_enter Tryd.func35, Tryd.ntmps35
  go_wp2
  go_loopg [6, 7, 8] (16 * n) (fun g s6 s7 s8 wx => ∃ (a6 a7 : Option Addr) (q6 q7 c6 c7 : Nat) (i : Int), g ≤ 16 * n ∧ s6 = .slice a6 q6 c6 ∧ s7 = .slice a7 q7 c7 ∧ s8 = .int .i64 i ∧ i + 1 = g ∧ Hid (Own wx w.heap.size (.slice a6 q6 c6) (bigL (hiV xs g / val ys))) ∧ Hid (Own wx w.heap.size (.slice a7 q7 c7) (bigL (hiV xs g % val ys))) ∧ Hid (Below w.heap.size w wx))
  case atStart =>
    have e0 : bigL (0 : Int) = [] := rfl
    refine ⟨none, none, 0, 0, 0, 0, 16 * (n : Int) - 1, Nat.le_refl _, rfl, rfl, by first | rfl | (congr 1; omega), by omega, ?_, ?_, Below.refl _ _⟩
    · show Own _ _ _ _
      rw [HTOP.out, Int.zero_ediv, e0]
      exact World.ownsRow_nil _ _ _ _
    · show Own _ _ _ _
      rw [HTOP.out, Int.zero_emod, e0]
      exact World.ownsRow_nil _ _ _ _
  case round =>
    obtain ⟨a6, a7, q6, q7, c6, c7, i, hg, rfl, rfl, rfl, hig, OQ6, OR7, HB⟩ := hrel
    rcases gk with _ | k
    · skip
      obtain rfl : i = -1 := by omega
      have hh := hiV_zero xs
      rw [hh] at OQ6 OR7
      obtain ⟨hpa, hpb⟩ := HP.out
      obtain rfl : q6 = p := by rw [← OQ6.out.rd'.1]; exact hpa
      obtain rfl : q7 = q := by rw [← OR7.out.rd'.1]; exact hpb
      clear hh hpa hpb hig
      go_wp2
      refine bodyPost_ret (v := .tuple #[.slice a6 q6 c6, .slice a7 q7 c7]) (by simp [results, Tryd.results35, go_sem]) rfl ⟨a6, c6, a7, c7, rfl, OQ6.out, OR7.out, HB.out⟩
    · skip
      obtain rfl : i = (k : Int) := by push_cast at hig; omega
      clear hig
      have k0 : (0 : Int) ≤ (k : Int) := by omega
      have hst := hiV_step HDX.out k
      have hbv := bitV_bd xs k
      have hnn := hiV_nonneg HDX.out (k + 1)
      have hle := hiV_le HDX.out (k + 1)
      obtain ⟨hy0, hvx⟩ := HV.out
      obtain ⟨V, hV⟩ : ∃ V, hiV xs (k + 1) = V := ⟨_, rfl⟩
      rw [hV] at hst hnn hle OQ6 OR7
      obtain ⟨BB, hBB⟩ : ∃ BB, val ys = BB := ⟨_, rfl⟩
      rw [hBB] at OQ6 OR7 hy0
      have hr0 := Int.emod_nonneg V (show BB ≠ 0 by omega)
      have hr1 := Int.emod_lt_of_pos V hy0
      have hq0 : 0 ≤ V / BB := Int.ediv_nonneg hnn (by omega)
      have hqv : V / BB ≤ V := Int.ediv_le_self BB hnn
      have hrv : V % BB ≤ V := by
        have h1 := Int.emod_add_mul_ediv V BB
        have h2 := Int.mul_nonneg (show 0 ≤ BB by omega) hq0
        omega
      have hQ := bigL_spec hq0
      have hR := bigL_spec hr0
      obtain ⟨bt, hbt⟩ : ∃ bt, bitV xs k = bt := ⟨_, rfl⟩
      rw [hbt] at hst hbv
      obtain ⟨hbt0, hbt1⟩ := hbv
      have hR2 := bigL_spec (n := 2 * (V % BB) + bt) (by omega)
      have HQQ : Hid (Digs (bigL (V / BB)) ∧ val (bigL (V / BB)) = V / BB) := ⟨hQ.1, hQ.2.1⟩
      have HRR : Hid (Digs (bigL (V % BB)) ∧ val (bigL (V % BB)) = V % BB) := ⟨hR.1, hR.2.1⟩
      have HR2 : Hid (Digs (bigL (2 * (V % BB) + bt)) ∧ trim (bigL (2 * (V % BB) + bt)) = bigL (2 * (V % BB) + bt) ∧ val (bigL (2 * (V % BB) + bt)) = 2 * (V % BB) + bt) := ⟨hR2.1, hR2.2.2, hR2.2.1⟩
      obtain ⟨r1, hr1'⟩ : ∃ r1, (bigL (2 * (V % BB) + bt)).length = r1 := ⟨_, rfl⟩
      have hr18 : r1 ≤ 100000000 := by rw [← hr1']; exact bigL_short9 (by omega) (by omega)
      have hq68 : q6 ≤ 100000000 := by rw [← OQ6.out.rd'.1]; exact bigL_short9 hq0 (by omega)
      have hq78 : q7 ≤ 100000000 := by rw [← OR7.out.rd'.1]; exact bigL_short9 hr0 (by omega)
      have HR1 : Hid ((bigL (2 * (V % BB) + bt)).length = r1) := hr1'
      have HBB : Hid (val ys = BB) := hBB
      have HVB : Hid (V < 79228162514264337593543950336 * 19807040628566084398385987584) := by show _ < _; omega
      obtain ⟨b', o', ha', hc'⟩ := (HR.out.later HB.out).at HX.out (by omega)
      subst ha'
      have hk16 : k / 16 < n := by omega
      have g1 := hc' (k / 16) hk16
      have HBT : Hid (xs.getD (k / 16) 0 / 2 ^ (k % 16) % 2 = bt) := hbt
      have HST : Hid (hiV xs k = 2 * V + bt) := hst
      generalize xs.getD (k / 16) 0 = x0 at g1 HBT
      clear hc' hst hbt hr1' hQ hR hR2 hBB hle hnn hV
      go_wp2_with fail
      rw [i64_and1, HBT.out]
      refine (l1Twice_c a7 q7 c7 (bigL (V % BB)) bt _ OR7.out.rd'.1 hq78 OR7.out.rd'.2 HRR.out.1 hbt0 hbt1 (by have := HVB.out; rw [HRR.out.2]; omega) r1 (by rw [HRR.out.2]; exact HR1.out)).mono ?_
      rw [HRR.out.2]
      rintro e w1 ⟨a8, c8, rfl, ho, hb⟩
      have OR8 : Hid (Own w1 w.heap.size (.slice a8 r1 c8) (bigL (2 * (V % BB) + bt))) := ho.mono HB.out.size
      replace OQ6 : Hid (Own w1 w.heap.size (.slice a6 q6 c6) (bigL (V / BB))) := OQ6.out.later hb
      replace HB : Hid (Below w.heap.size w w1) := HB.out.trans (hb.mono HB.out.size)
      have hs1 : w.heap.size ≤ w1.heap.size := HB.out.size
      clear ho hb OR7 g1 HBT HRR
      go_wp2_with fail
      refine (l1Compare_c a8 bo r1 m c8 d (bigL (2 * (V % BB) + bt)) ys _ HR1.out HY.out (by omega) (by omega) OR8.out.rd'.2 (HS.out.later HB.out) HR2.out.1 HDY.out.1 HR2.out.2.1 HDY.out.2).mono ?_
      rw [HR2.out.2.2, HBB.out]
      rintro e w2 ⟨rfl, hb⟩
      replace OR8 : Hid (Own w2 w.heap.size (.slice a8 r1 c8) (bigL (2 * (V % BB) + bt))) := OR8.out.later hb
      replace OQ6 : Hid (Own w2 w.heap.size (.slice a6 q6 c6) (bigL (V / BB))) := OQ6.out.later hb
      replace HB : Hid (Below w.heap.size w w2) := HB.out.trans (hb.mono HB.out.size)
      have hs2 : w.heap.size ≤ w2.heap.size := HB.out.size
      clear hb
      by_cases hlt : 2 * (V % BB) + bt < BB
      · rw [cmpI_lt hlt]
        obtain ⟨d1, d2⟩ := div_low (b := bt) hy0 hbt0 hlt
        have HD : Hid ((2 * V + bt) / BB = 2 * (V / BB) ∧ (2 * V + bt) % BB = 2 * (V % BB) + bt) := ⟨d1, d2⟩
        clear d1 d2
        obtain ⟨t1, ht1⟩ : ∃ t1, (bigL (2 * (V / BB) + 0)).length = t1 := ⟨_, rfl⟩
        have HT1 : Hid ((bigL (2 * (V / BB) + 0)).length = t1) := ht1
        clear ht1
        go_wp2_with fail
        refine (l1Twice_c a6 q6 c6 (bigL (V / BB)) 0 _ OQ6.out.rd'.1 hq68 OQ6.out.rd'.2 HQQ.out.1 (by omega) (by omega) (by have := HVB.out; rw [HQQ.out.2]; omega) t1 (by rw [HQQ.out.2]; exact HT1.out)).mono ?_
        rw [HQQ.out.2]
        rintro e w3 ⟨a9, c9, rfl, ho, hb⟩
        have OQ9 : Hid (Own w3 w.heap.size (.slice a9 t1 c9) (bigL (2 * (V / BB) + 0))) := ho.mono HB.out.size
        replace OR8 : Hid (Own w3 w.heap.size (.slice a8 r1 c8) (bigL (2 * (V % BB) + bt))) := OR8.out.later hb
        replace HB : Hid (Below w.heap.size w w3) := HB.out.trans (hb.mono HB.out.size)
        clear ho hb
        go_wp2
        go_roundg k
        case measure => omega
        case rel =>
          refine ⟨a9, a8, t1, r1, c9, c8, (k : Int) - 1, by omega, rfl, rfl, by first | rfl | go_num, by omega, ?_, ?_, HB⟩
          · show Own _ _ _ _
            rw [HST.out, HBB.out, HD.out.1, ← Int.add_zero (2 * (V / BB))]
            exact OQ9.out
          · show Own _ _ _ _
            rw [HST.out, HBB.out, HD.out.2]
            exact OR8.out
      · obtain ⟨cm, hcm, hcm0⟩ : ∃ cm, cmpI (2 * (V % BB) + bt) BB = cm ∧ 0 ≤ cm := ⟨_, rfl, by unfold cmpI; rw [if_neg hlt]; split <;> omega⟩
        rw [hcm]
        obtain ⟨d1, d2⟩ := div_high (b := bt) hy0 hbt1 hlt
        have HD : Hid ((2 * V + bt) / BB = 2 * (V / BB) + 1 ∧ (2 * V + bt) % BB = 2 * (V % BB) + bt - BB) := ⟨d1, d2⟩
        have hmr : m ≤ r1 := by
          rcases Nat.lt_or_ge r1 m with h | h
          · have := val_lt_len HR2.out.1 HDY.out.1 HDY.out.2 (by rw [HR1.out, HY.out]; exact h)
            rw [HR2.out.2.2, HBB.out] at this
            exact absurd this hlt
          · exact h
        obtain ⟨t2, ht2⟩ : ∃ t2, (bigL (2 * (V % BB) + bt - BB)).length = t2 := ⟨_, rfl⟩
        have HT2 : Hid ((bigL (2 * (V % BB) + bt - BB)).length = t2) := ht2
        clear d1 d2 hcm ht2
        go_wp2_with fail
        refine (l1Less_c a8 bo r1 m c8 d (bigL (2 * (V % BB) + bt)) ys _ HR1.out HY.out (by omega) hmr OR8.out.rd'.2 (HS.out.later HB.out) HR2.out.1 HDY.out.1 (by rw [HR2.out.2.2, HBB.out]; omega) t2 (by rw [HR2.out.2.2, HBB.out]; exact HT2.out)).mono ?_
        rw [HR2.out.2.2, HBB.out]
        rintro e w3 ⟨a10, c10, rfl, ho, hb⟩
        have OR10 : Hid (Own w3 w.heap.size (.slice a10 t2 c10) (bigL (2 * (V % BB) + bt - BB))) := ho.mono HB.out.size
        replace OQ6 : Hid (Own w3 w.heap.size (.slice a6 q6 c6) (bigL (V / BB))) := OQ6.out.later hb
        replace HB : Hid (Below w.heap.size w w3) := HB.out.trans (hb.mono HB.out.size)
        have hs3 : w.heap.size ≤ w3.heap.size := HB.out.size
        clear ho hb OR8
        obtain ⟨t1, ht1⟩ : ∃ t1, (bigL (2 * (V / BB) + 1)).length = t1 := ⟨_, rfl⟩
        have HT1 : Hid ((bigL (2 * (V / BB) + 1)).length = t1) := ht1
        clear ht1
        go_wp2_with fail
        refine (l1Twice_c a6 q6 c6 (bigL (V / BB)) 1 _ OQ6.out.rd'.1 hq68 OQ6.out.rd'.2 HQQ.out.1 (by omega) (by omega) (by have := HVB.out; rw [HQQ.out.2]; omega) t1 (by rw [HQQ.out.2]; exact HT1.out)).mono ?_
        rw [HQQ.out.2]
        rintro e w4 ⟨a9, c9, rfl, ho, hb⟩
        have OQ9 : Hid (Own w4 w.heap.size (.slice a9 t1 c9) (bigL (2 * (V / BB) + 1))) := ho.mono HB.out.size
        replace OR10 : Hid (Own w4 w.heap.size (.slice a10 t2 c10) (bigL (2 * (V % BB) + bt - BB))) := OR10.out.later hb
        replace HB : Hid (Below w.heap.size w w4) := HB.out.trans (hb.mono HB.out.size)
        clear ho hb
        go_wp2
        go_roundg k
        case measure => omega
        case rel =>
          refine ⟨a9, a10, t1, t2, c9, c10, (k : Int) - 1, by omega, rfl, rfl, by first | rfl | go_num, by omega, ?_, ?_, HB⟩
          · show Own _ _ _ _
            rw [HST.out, HBB.out, HD.out.1]
            exact OQ9.out
          · show Own _ _ _ _
            rw [HST.out, HBB.out, HD.out.2]
            exact OR10.out

end Go.Proofs.YtaedplfihjfchaaDoor
