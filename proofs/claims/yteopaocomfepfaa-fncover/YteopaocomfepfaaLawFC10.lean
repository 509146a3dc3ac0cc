/- The law FnCover, walked: true at every two texts of bytes. -/
import Derived.Test.YteopaocomfepfaaLawPC10
import Derived.Test.YteopaocomfepfaaD10Q
import Derived.Test.YteopaocomfepfaaSM10
import Derived.Test.YteopaocomfepfaaSM4
import Derived.Test.YteopaocomfepfaaH10P
namespace Go.Proofs.Yteopaocomfepfaa
set_option linter.unusedVariables false
set_option maxRecDepth 1000000
set_option linter.unusedSimpArgs false
open Go.RowKit

theorem sameTrace_b (ao bo : Option Addr) (n c d : Nat) (xs : List (Int × Int × Int)) (w : World) (hx : xs.length = n) (hn : n ≤ 140737488355328) (hr : RdE w ao xs) (hs : RdE w bo xs) :
    Calls Try.prog 15 #[.slice ao n c, .slice bo n d] w fun e w' => e = .returned (.bool true) ∧ Below w.heap.size w w' :=
  (sameTrace_q ao bo n c d xs w hx hn hr hs).mono fun e w' h => by
    obtain ⟨rfl, q, rfl⟩ := h
    exact ⟨rfl, below_drewN (Below.refl _ _) q⟩

theorem sameBools_b (ao bo : Option Addr) (n c d : Nat) (xs : List Bool) (w : World) (hx : xs.length = n) (hn : n ≤ 140737488355328) (hr : RdB w ao xs) (hs : RdB w bo xs) :
    Calls Try.prog 17 #[.slice ao n c, .slice bo n d] w fun e w' => e = .returned (.bool true) ∧ Below w.heap.size w w' :=
  (sameBools_q ao bo n c d xs w hx hn hr hs).mono fun e w' h => by
    obtain ⟨rfl, q, rfl⟩ := h
    exact ⟨rfl, below_drewN (Below.refl _ _) q⟩

set_option maxRecDepth 1000000 in
set_option maxHeartbeats 16000000 in
theorem lawFnCover_c (ao : Option Addr) (n c : Nat) (bo : Option Addr) (m d : Nat) (w : World) (hn : n ≤ 9223372036854775807) (hm : m ≤ 9223372036854775807) (h1 : CodeOk w w.heap.size ao n) (h2 : CodeOk w w.heap.size bo m) :
    Calls Try.prog 3 #[.slice ao n c, .slice bo m d] w fun e w' => e = .returned (.bool true) ∧ Below w.heap.size w w' := by
  by_cases hl : 1048576 < wrap64 ((n : Int) + (m : Int))
  · clear h1 h2
    go_enter Try.func3, Try.ntmps3
    go_wp2
    go_ret
    exact ⟨rfl, Below.refl _ _⟩
  have HN : Hid (CodeOk w w.heap.size ao n) := h1
  have HM : Hid (CodeOk w w.heap.size bo m) := h2
  clear h1 h2
  have HB_0 : Hid (Below w.heap.size w w) := Below.refl _ _
  go_enter Try.func3, Try.ntmps3
  go_wp2_with fail
  refine (drawPlayC_c ao n c _ hn HN.out).mono ?_
  rintro e w1 ⟨y, la, q, lc, xs, rfl, hy, hxq, hq81, hstep, hok, hb⟩
  have hB : Below w.heap.size w w1 := hb
  have HB_1 : Hid (Below w.heap.size w w1) := HB_0.out.trans (hB.mono HB_0.out.size)
  have z1 : w.heap.size ≤ w1.heap.size := hB.size
  have RL_1 : Hid (RdK w1 la xs) := hok.rd'.2
  clear hb hB HB_0 
  have HX : Hid (xs.length = q) := hxq
  have HZ : Hid (∀ x ∈ xs, x.2.size ≤ 9223372036854775807) := fun x hx => by have := (hstep x hx).2.2; omega
  have hwy : waysB y = true := by unfold waysB; simp; omega
  have HW : Hid (waysB y = true) := hwy
  clear hxq hstep hok hwy
  by_cases h80 : q ≤ 80
  case neg =>
    have hF : playF y xs = ([], [], [], false) := by unfold playF; rw [if_neg (by rw [HX.out]; exact fun h => h80 h.2)]
    obtain ⟨em, hem0⟩ : ∃ z : List (Int × Int × Int), [] = z := ⟨_, rfl⟩
    obtain ⟨tx, htx0⟩ : ∃ z : List ByteArray, [] = z := ⟨_, rfl⟩
    obtain ⟨did, hdd0⟩ : ∃ z : List Bool, [] = z := ⟨_, rfl⟩
    have htl : tx.length = em.length := by rw [← hem0, ← htx0]; rfl
    have hpe : em.length ≤ q := by rw [← hem0]; simp
    rw [hem0, htx0, hdd0] at hF
    have HF : Hid (playF y xs = (em, tx, did, false)) := hF
    obtain ⟨dn, hdn⟩ : ∃ z, did.length = z := ⟨_, rfl⟩
    have hdl : dn ≤ 80 := by rw [← hdn, ← hdd0]; simp
    obtain ⟨p, hp⟩ : ∃ z, em.length = z := ⟨_, rfl⟩
    rw [hp] at htl hpe
    have HE : Hid (em.length = p) := hp
    have HT : Hid (tx.length = p) := htl
    have HD : Hid (did.length = dn) := hdn
    have hpp : ((p : Int) != (p : Int)) = false := by simp
    clear hF hem0 htx0 hdd0 hp htl hdn
    go_wp2_with fail
    refine (play_both implPlay_yes implPlay_no y la q lc xs _ HX.out (by omega) RL_1.out HZ.out em tx did false HF.out p dn HE.out HD.out).mono ?_
    rintro e w2 ⟨e1, ec1, s1, sc1, b1, bc1, rfl, hoe, hos, hob, hb⟩
    have hB : Below w1.heap.size w1 w2 := hb
    have HB_2 : Hid (Below w.heap.size w w2) := HB_1.out.trans (hB.mono HB_1.out.size)
    have RL_2 : Hid (RdK w2 la xs) := RL_1.out.later hB
    have z2 : w1.heap.size ≤ w2.heap.size := hB.size
    have T1_2 : Hid (RdE w2 e1 em) := hoe.rd'.2
    have S1_2 : Hid (RdS w2 s1 tx) := hos.rd'.2
    have D1_2 : Hid (RdB w2 b1 did) := hob.rd'.2
    clear hb hB HB_1 RL_1 
    clear hoe hos hob
    go_wp2_with fail
    refine (play_both specPlay_yes specPlay_no y la q lc xs _ HX.out (by omega) RL_2.out HZ.out em tx did false HF.out p dn HE.out HD.out).mono ?_
    rintro e w3 ⟨e2, ec2, s2, sc2, b2, bc2, rfl, hoe, hos, hob, hb⟩
    have hB : Below w2.heap.size w2 w3 := hb
    have HB_3 : Hid (Below w.heap.size w w3) := HB_2.out.trans (hB.mono HB_2.out.size)
    have RL_3 : Hid (RdK w3 la xs) := RL_2.out.later hB
    have T1_3 : Hid (RdE w3 e1 em) := T1_2.out.later hB
    have S1_3 : Hid (RdS w3 s1 tx) := S1_2.out.later hB
    have D1_3 : Hid (RdB w3 b1 did) := D1_2.out.later hB
    have z3 : w2.heap.size ≤ w3.heap.size := hB.size
    have T2_3 : Hid (RdE w3 e2 em) := hoe.rd'.2
    have S2_3 : Hid (RdS w3 s2 tx) := hos.rd'.2
    have D2_3 : Hid (RdB w3 b2 did) := hob.rd'.2
    clear hb hB HB_2 RL_2 T1_2 S1_2 D1_2 
    clear hoe hos hob
    go_wp2_with fail
    refine (sameTrace_b e1 e2 p ec1 ec2 em _ HE.out (by omega) T1_3.out T2_3.out).mono ?_
    rintro e w4 ⟨rfl, hb⟩
    have hB : Below w3.heap.size w3 w4 := hb
    have HB_4 : Hid (Below w.heap.size w w4) := HB_3.out.trans (hB.mono HB_3.out.size)
    have RL_4 : Hid (RdK w4 la xs) := RL_3.out.later hB
    have T1_4 : Hid (RdE w4 e1 em) := T1_3.out.later hB
    have S1_4 : Hid (RdS w4 s1 tx) := S1_3.out.later hB
    have D1_4 : Hid (RdB w4 b1 did) := D1_3.out.later hB
    have T2_4 : Hid (RdE w4 e2 em) := T2_3.out.later hB
    have S2_4 : Hid (RdS w4 s2 tx) := S2_3.out.later hB
    have D2_4 : Hid (RdB w4 b2 did) := D2_3.out.later hB
    have z4 : w3.heap.size ≤ w4.heap.size := hB.size
    clear hb hB HB_3 RL_3 T1_3 S1_3 D1_3 T2_3 S2_3 D2_3 
    go_wp2_with fail
    refine (sameTexts_c s1 s2 p p sc1 sc2 tx tx _ HT.out HT.out (by omega) (by omega) S1_4.out S2_4.out).mono ?_
    rw [decide_eq_true rfl]
    rintro e w5 ⟨rfl, hb⟩
    have hB : Below w4.heap.size w4 w5 := hb
    have HB_5 : Hid (Below w.heap.size w w5) := HB_4.out.trans (hB.mono HB_4.out.size)
    have RL_5 : Hid (RdK w5 la xs) := RL_4.out.later hB
    have T1_5 : Hid (RdE w5 e1 em) := T1_4.out.later hB
    have S1_5 : Hid (RdS w5 s1 tx) := S1_4.out.later hB
    have D1_5 : Hid (RdB w5 b1 did) := D1_4.out.later hB
    have T2_5 : Hid (RdE w5 e2 em) := T2_4.out.later hB
    have S2_5 : Hid (RdS w5 s2 tx) := S2_4.out.later hB
    have D2_5 : Hid (RdB w5 b2 did) := D2_4.out.later hB
    have z5 : w4.heap.size ≤ w5.heap.size := hB.size
    clear hb hB HB_4 RL_4 T1_4 S1_4 D1_4 T2_4 S2_4 D2_4 
    go_wp2_with fail
    refine (sameBools_b b1 b2 dn bc1 bc2 did _ HD.out (by omega) D1_5.out D2_5.out).mono ?_
    rintro e w6 ⟨rfl, hb⟩
    have hB : Below w5.heap.size w5 w6 := hb
    have HB_6 : Hid (Below w.heap.size w w6) := HB_5.out.trans (hB.mono HB_5.out.size)
    have RL_6 : Hid (RdK w6 la xs) := RL_5.out.later hB
    have T1_6 : Hid (RdE w6 e1 em) := T1_5.out.later hB
    have S1_6 : Hid (RdS w6 s1 tx) := S1_5.out.later hB
    have D1_6 : Hid (RdB w6 b1 did) := D1_5.out.later hB
    have z6 : w5.heap.size ≤ w6.heap.size := hB.size
    clear hb hB HB_5 RL_5 T1_5 S1_5 D1_5 T2_5 S2_5 D2_5 
    go_wp2_with fail
    refine (drawErase_c bo m d _ hm (HM.out.later HB_6.out HB_6.out.size)).mono ?_
    rintro e w7 ⟨za, zq, zc, zs, rfl, hzq, hz81, hzst, hok, hb⟩
    have hB : Below w6.heap.size w6 w7 := hb
    have HB_7 : Hid (Below w.heap.size w w7) := HB_6.out.trans (hB.mono HB_6.out.size)
    have RL_7 : Hid (RdK w7 la xs) := RL_6.out.later hB
    have T1_7 : Hid (RdE w7 e1 em) := T1_6.out.later hB
    have S1_7 : Hid (RdS w7 s1 tx) := S1_6.out.later hB
    have D1_7 : Hid (RdB w7 b1 did) := D1_6.out.later hB
    have z7 : w6.heap.size ≤ w7.heap.size := hB.size
    have RZ_7 : Hid (RdK w7 za zs) := hok.rd'.2
    clear hb hB HB_6 RL_6 T1_6 S1_6 D1_6 
    clear hok hzst
    have HZQ : Hid (zs.length = zq) := hzq
    obtain ⟨l2, f2, hF6⟩ : ∃ l2 f2, eraseF zs = (l2, f2) := ⟨_, _, rfl⟩
    have hp28 : l2.length ≤ 81 := by
      unfold eraseF at hF6
      split at hF6
      · simp only [Prod.mk.injEq] at hF6; rw [← hF6.1]; have := ticksL_le zs; omega
      · simp only [Prod.mk.injEq] at hF6; rw [← hF6.1]; simp
    obtain ⟨p2, hp2⟩ : ∃ z, l2.length = z := ⟨_, rfl⟩
    rw [hp2] at hp28
    have HF6 : Hid (eraseF zs = (l2, f2)) := hF6
    have HP2 : Hid (l2.length = p2) := hp2
    have hf2 : (f2 != f2) = false := by simp
    have hpp2 : ((p2 : Int) != (p2 : Int)) = false := by simp
    clear hzq hF6 hp2
    go_wp2_with fail
    refine (implErase_c za zq zc zs _ HZQ.out (by omega) RZ_7.out l2 f2 HF6.out p2 HP2.out).mono ?_
    rintro e w8 ⟨x1, xc1, rfl, ho, hb⟩
    have hB : Below w7.heap.size w7 w8 := hb
    have HB_8 : Hid (Below w.heap.size w w8) := HB_7.out.trans (hB.mono HB_7.out.size)
    have RL_8 : Hid (RdK w8 la xs) := RL_7.out.later hB
    have T1_8 : Hid (RdE w8 e1 em) := T1_7.out.later hB
    have S1_8 : Hid (RdS w8 s1 tx) := S1_7.out.later hB
    have D1_8 : Hid (RdB w8 b1 did) := D1_7.out.later hB
    have RZ_8 : Hid (RdK w8 za zs) := RZ_7.out.later hB
    have z8 : w7.heap.size ≤ w8.heap.size := hB.size
    have X1_8 : Hid (RdK w8 x1 l2) := ho.rd'.2
    clear hb hB HB_7 RL_7 T1_7 S1_7 D1_7 RZ_7 
    clear ho
    go_wp2_with fail
    refine (specErase_c za zq zc zs _ HZQ.out (by omega) RZ_8.out l2 f2 HF6.out p2 HP2.out).mono ?_
    rintro e w9 ⟨x2, xc2, rfl, ho, hb⟩
    have hB : Below w8.heap.size w8 w9 := hb
    have HB_9 : Hid (Below w.heap.size w w9) := HB_8.out.trans (hB.mono HB_8.out.size)
    have RL_9 : Hid (RdK w9 la xs) := RL_8.out.later hB
    have T1_9 : Hid (RdE w9 e1 em) := T1_8.out.later hB
    have S1_9 : Hid (RdS w9 s1 tx) := S1_8.out.later hB
    have D1_9 : Hid (RdB w9 b1 did) := D1_8.out.later hB
    have X1_9 : Hid (RdK w9 x1 l2) := X1_8.out.later hB
    have z9 : w8.heap.size ≤ w9.heap.size := hB.size
    have X2_9 : Hid (RdK w9 x2 l2) := ho.rd'.2
    clear hb hB HB_8 RL_8 T1_8 S1_8 D1_8 RZ_8 X1_8 
    clear ho
    go_wp2_with fail
    refine (drawTrace_c bo m d _ hm (HM.out.later HB_9.out HB_9.out.size)).mono ?_
    rintro e w10 ⟨ty, tn, rfl, hty, htn, hb⟩
    have hB : Below w9.heap.size w9 w10 := hb
    have HB_10 : Hid (Below w.heap.size w w10) := HB_9.out.trans (hB.mono HB_9.out.size)
    have RL_10 : Hid (RdK w10 la xs) := RL_9.out.later hB
    have T1_10 : Hid (RdE w10 e1 em) := T1_9.out.later hB
    have S1_10 : Hid (RdS w10 s1 tx) := S1_9.out.later hB
    have D1_10 : Hid (RdB w10 b1 did) := D1_9.out.later hB
    have X1_10 : Hid (RdK w10 x1 l2) := X1_9.out.later hB
    have X2_10 : Hid (RdK w10 x2 l2) := X2_9.out.later hB
    have z10 : w9.heap.size ≤ w10.heap.size := hB.size
    clear hb hB HB_9 RL_9 T1_9 S1_9 D1_9 X1_9 X2_9 
    obtain ⟨l3, f3, hF7⟩ : ∃ l3 f3, traceF ty tn = (l3, f3) := ⟨_, _, rfl⟩
    have hp38 : l3.length ≤ 81 := by
      unfold traceF at hF7
      split at hF7
      · simp only [Prod.mk.injEq] at hF7; rw [← hF7.1, traceL_length]; omega
      · simp only [Prod.mk.injEq] at hF7; rw [← hF7.1]; simp
    obtain ⟨p3, hp3⟩ : ∃ z, l3.length = z := ⟨_, rfl⟩
    rw [hp3] at hp38
    have HF7 : Hid (traceF ty tn = (l3, f3)) := hF7
    have HP3 : Hid (l3.length = p3) := hp3
    have hf3 : (f3 != f3) = false := by simp
    clear hF7 hp3 hty htn
    go_wp2_with fail
    refine (implTrace_c ty tn _ l3 f3 HF7.out p3 HP3.out).mono ?_
    rintro e w11 ⟨v1, vc1, rfl, ho, hb⟩
    have hB : Below w10.heap.size w10 w11 := hb
    have HB_11 : Hid (Below w.heap.size w w11) := HB_10.out.trans (hB.mono HB_10.out.size)
    have RL_11 : Hid (RdK w11 la xs) := RL_10.out.later hB
    have T1_11 : Hid (RdE w11 e1 em) := T1_10.out.later hB
    have S1_11 : Hid (RdS w11 s1 tx) := S1_10.out.later hB
    have D1_11 : Hid (RdB w11 b1 did) := D1_10.out.later hB
    have X1_11 : Hid (RdK w11 x1 l2) := X1_10.out.later hB
    have X2_11 : Hid (RdK w11 x2 l2) := X2_10.out.later hB
    have z11 : w10.heap.size ≤ w11.heap.size := hB.size
    have V1_11 : Hid (RdE w11 v1 l3) := ho.rd'.2
    clear hb hB HB_10 RL_10 T1_10 S1_10 D1_10 X1_10 X2_10 
    clear ho
    go_wp2_with fail
    refine (specTrace_c ty tn _ l3 f3 HF7.out p3 HP3.out).mono ?_
    rintro e w12 ⟨v2, vc2, rfl, ho, hb⟩
    have hB : Below w11.heap.size w11 w12 := hb
    have HB_12 : Hid (Below w.heap.size w w12) := HB_11.out.trans (hB.mono HB_11.out.size)
    have RL_12 : Hid (RdK w12 la xs) := RL_11.out.later hB
    have T1_12 : Hid (RdE w12 e1 em) := T1_11.out.later hB
    have S1_12 : Hid (RdS w12 s1 tx) := S1_11.out.later hB
    have D1_12 : Hid (RdB w12 b1 did) := D1_11.out.later hB
    have X1_12 : Hid (RdK w12 x1 l2) := X1_11.out.later hB
    have X2_12 : Hid (RdK w12 x2 l2) := X2_11.out.later hB
    have V1_12 : Hid (RdE w12 v1 l3) := V1_11.out.later hB
    have z12 : w11.heap.size ≤ w12.heap.size := hB.size
    have V2_12 : Hid (RdE w12 v2 l3) := ho.rd'.2
    clear hb hB HB_11 RL_11 T1_11 S1_11 D1_11 X1_11 X2_11 V1_11 
    clear ho
    go_wp2_with fail
    refine (sameTrace_b v1 v2 p3 vc1 vc2 l3 _ HP3.out (by omega) V1_12.out V2_12.out).mono ?_
    rintro e w13 ⟨rfl, hb⟩
    have hB : Below w12.heap.size w12 w13 := hb
    have HB_13 : Hid (Below w.heap.size w w13) := HB_12.out.trans (hB.mono HB_12.out.size)
    have RL_13 : Hid (RdK w13 la xs) := RL_12.out.later hB
    have T1_13 : Hid (RdE w13 e1 em) := T1_12.out.later hB
    have S1_13 : Hid (RdS w13 s1 tx) := S1_12.out.later hB
    have D1_13 : Hid (RdB w13 b1 did) := D1_12.out.later hB
    have X1_13 : Hid (RdK w13 x1 l2) := X1_12.out.later hB
    have X2_13 : Hid (RdK w13 x2 l2) := X2_12.out.later hB
    have z13 : w12.heap.size ≤ w13.heap.size := hB.size
    clear hb hB HB_12 RL_12 T1_12 S1_12 D1_12 X1_12 X2_12 V1_12 V2_12 
    go_wp2
    go_loopw [236] (fun iv wr => ∃ k : Nat, k ≤ p2 ∧ iv = .int .i64 k ∧ Hid (Below w13.heap.size w13 wr)) (fun iv _ => p2 - (intOf iv).toNat)
    case atStart => exact ⟨0, Nat.zero_le _, rfl, Below.refl _ _⟩
    case round =>
      obtain ⟨k, hk, rfl, HBr⟩ := hrel
      by_cases hlt : k < p2
      · obtain ⟨ba, oa, rfl, g0, g1⟩ := (X1_13.out.later HBr.out).get (k := k) (by rw [HP2.out]; exact hlt)
        obtain ⟨bb, ob, rfl, g2, g3⟩ := (X2_13.out.later HBr.out).get (k := k) (by rw [HP2.out]; exact hlt)
        have heq := fun wx => run_neq_step (l2.getD k (0, ByteArray.empty)).1 (l2.getD k (0, ByteArray.empty)).2 wx
        generalize (l2.getD k (0, ByteArray.empty)).1 = xk at *
        generalize (l2.getD k (0, ByteArray.empty)).2 = xt at *
        have h0 : (0 : Int) ≤ (k : Int) := by omega
        have hlk : (k : Int) < (p2 : Int) := by omega
        go_wp2
        go_quiet (fail)
        go_wp2
        go_roundw
        case rel => exact ⟨k + 1, by omega, by go_num, below_drewN HBr.out _⟩
        case measure => simp [intOf]; omega
      · go_wp2
        go_ret
        exact ⟨rfl, HB_13.out.trans (HBr.out.mono HB_13.out.size)⟩
  have hF : playF y xs = ((playV y xs).em, (playV y xs).tx, (playV y xs).did, true) := by unfold playF; rw [if_pos ⟨HW.out, by rw [HX.out]; exact h80⟩]
  have hpl := pl_take HW.out xs xs.length (Nat.le_refl _)
  rw [List.take_length] at hpl
  have hfine := fun i hi => said_fine HW.out (by rw [HX.out]; exact h80) i hi (y := y) (l := xs)
  have hem0 : (playV y xs).em = traceL y (ticksL xs).length := play_em (by rw [HX.out]; exact h80)
  have hem1 : (playV y (ticksL xs)).em = (playV y xs).em := play_erased (by rw [HX.out]; exact h80)
  have htl := hpl.tx
  have hdl := hpl.did
  have hpe := hpl.em
  rw [HX.out] at hdl hpe
  generalize hE : (playV y xs).em = em at *
  generalize (playV y xs).tx = tx at *
  generalize (playV y xs).did = did at *
  have hF2 : eraseF xs = (ticksL xs, true) := by unfold eraseF; rw [if_pos (by rw [HX.out]; exact h80)]
  have hte : (ticksL xs).length ≤ 80 := by have := ticksL_le xs; rw [HX.out] at this; omega
  have hF3 : playF y (ticksL xs) = (em, (playV y (ticksL xs)).tx, (playV y (ticksL xs)).did, true) := by unfold playF; rw [if_pos ⟨HW.out, hte⟩, hem1]
  have hF4 : traceF y ((ticksL xs).length : Int) = (em, true) := by unfold traceF; rw [if_pos ⟨HW.out, by omega, by omega⟩, Int.toNat_natCast, ← hem0]
  have HZ2 : Hid (∀ x ∈ ticksL xs, x.2.size ≤ 9223372036854775807) := fun x hx => HZ.out x (List.mem_filter.1 (show x ∈ xs.filter _ from hx)).1
  have hd2 : (playV y (ticksL xs)).did.length = (ticksL xs).length := by have := (pl_take HW.out (ticksL xs) _ (Nat.le_refl _)).did; rwa [List.take_length] at this
  generalize (playV y (ticksL xs)).tx = tx2 at *
  generalize (playV y (ticksL xs)).did = did2 at *
  obtain ⟨te, hte0⟩ : ∃ z, ticksL xs = z := ⟨_, rfl⟩
  rw [hte0] at hF2 hte hF3 hF4 HZ2 hd2
  obtain ⟨ne, hne⟩ : ∃ z, te.length = z := ⟨_, rfl⟩
  rw [hne] at hte hF4 hd2
  have HF : Hid (playF y xs = (em, tx, did, true)) := hF
  have HF2 : Hid (eraseF xs = (te, true)) := hF2
  have HF3 : Hid (playF y te = (em, tx2, did2, true)) := hF3
  have HF4 : Hid (traceF y (ne : Int) = (em, true)) := hF4
  have HNe : Hid (te.length = ne) := hne
  have HD2 : Hid (did2.length = ne) := hd2
  have HFine : Hid (∀ i, i < tx.length → (gK (saidL xs did) (tx.take i) < (saidL xs did).length ∧ (saidL xs did).getD (gK (saidL xs did) (tx.take i)) ByteArray.empty = tx.getD i ByteArray.empty) ∨ tx.getD i ByteArray.empty = ByteArray.empty) := hfine
  obtain ⟨dn, hdn⟩ : ∃ z, did.length = z := ⟨_, rfl⟩
  rw [hdn] at hdl
  have hdl1 : dn ≤ q := by omega
  have hdl2 : q ≤ dn := by omega
  clear hdl
  obtain ⟨p, hp⟩ : ∃ z, em.length = z := ⟨_, rfl⟩
  rw [hp] at htl hpe
  have HE : Hid (em.length = p) := hp
  have HT : Hid (tx.length = p) := htl
  have HD : Hid (did.length = dn) := hdn
  have hpp : ((p : Int) != (p : Int)) = false := by simp
  clear hF hpl hfine hem0 hem1 hte0 hne hF2 hF3 hF4 hd2 hE hp htl hdn
  go_wp2_with fail
  refine (play_both implPlay_yes implPlay_no y la q lc xs _ HX.out (by omega) RL_1.out HZ.out em tx did true HF.out p dn HE.out HD.out).mono ?_
  rintro e w2 ⟨e1, ec1, s1, sc1, b1, bc1, rfl, hoe, hos, hob, hb⟩
  have hB : Below w1.heap.size w1 w2 := hb
  have HB_2 : Hid (Below w.heap.size w w2) := HB_1.out.trans (hB.mono HB_1.out.size)
  have RL_2 : Hid (RdK w2 la xs) := RL_1.out.later hB
  have z2 : w1.heap.size ≤ w2.heap.size := hB.size
  have T1_2 : Hid (RdE w2 e1 em) := hoe.rd'.2
  have S1_2 : Hid (RdS w2 s1 tx) := hos.rd'.2
  have D1_2 : Hid (RdB w2 b1 did) := hob.rd'.2
  clear hb hB HB_1 RL_1 
  clear hoe hos hob
  go_wp2_with fail
  refine (play_both specPlay_yes specPlay_no y la q lc xs _ HX.out (by omega) RL_2.out HZ.out em tx did true HF.out p dn HE.out HD.out).mono ?_
  rintro e w3 ⟨e2, ec2, s2, sc2, b2, bc2, rfl, hoe, hos, hob, hb⟩
  have hB : Below w2.heap.size w2 w3 := hb
  have HB_3 : Hid (Below w.heap.size w w3) := HB_2.out.trans (hB.mono HB_2.out.size)
  have RL_3 : Hid (RdK w3 la xs) := RL_2.out.later hB
  have T1_3 : Hid (RdE w3 e1 em) := T1_2.out.later hB
  have S1_3 : Hid (RdS w3 s1 tx) := S1_2.out.later hB
  have D1_3 : Hid (RdB w3 b1 did) := D1_2.out.later hB
  have z3 : w2.heap.size ≤ w3.heap.size := hB.size
  have T2_3 : Hid (RdE w3 e2 em) := hoe.rd'.2
  have S2_3 : Hid (RdS w3 s2 tx) := hos.rd'.2
  have D2_3 : Hid (RdB w3 b2 did) := hob.rd'.2
  clear hb hB HB_2 RL_2 T1_2 S1_2 D1_2 
  clear hoe hos hob
  go_wp2_with fail
  refine (sameTrace_b e1 e2 p ec1 ec2 em _ HE.out (by omega) T1_3.out T2_3.out).mono ?_
  rintro e w4 ⟨rfl, hb⟩
  have hB : Below w3.heap.size w3 w4 := hb
  have HB_4 : Hid (Below w.heap.size w w4) := HB_3.out.trans (hB.mono HB_3.out.size)
  have RL_4 : Hid (RdK w4 la xs) := RL_3.out.later hB
  have T1_4 : Hid (RdE w4 e1 em) := T1_3.out.later hB
  have S1_4 : Hid (RdS w4 s1 tx) := S1_3.out.later hB
  have D1_4 : Hid (RdB w4 b1 did) := D1_3.out.later hB
  have T2_4 : Hid (RdE w4 e2 em) := T2_3.out.later hB
  have S2_4 : Hid (RdS w4 s2 tx) := S2_3.out.later hB
  have D2_4 : Hid (RdB w4 b2 did) := D2_3.out.later hB
  have z4 : w3.heap.size ≤ w4.heap.size := hB.size
  clear hb hB HB_3 RL_3 T1_3 S1_3 D1_3 T2_3 S2_3 D2_3 
  go_wp2_with fail
  refine (sameTexts_c s1 s2 p p sc1 sc2 tx tx _ HT.out HT.out (by omega) (by omega) S1_4.out S2_4.out).mono ?_
  rw [decide_eq_true rfl]
  rintro e w5 ⟨rfl, hb⟩
  have hB : Below w4.heap.size w4 w5 := hb
  have HB_5 : Hid (Below w.heap.size w w5) := HB_4.out.trans (hB.mono HB_4.out.size)
  have RL_5 : Hid (RdK w5 la xs) := RL_4.out.later hB
  have T1_5 : Hid (RdE w5 e1 em) := T1_4.out.later hB
  have S1_5 : Hid (RdS w5 s1 tx) := S1_4.out.later hB
  have D1_5 : Hid (RdB w5 b1 did) := D1_4.out.later hB
  have T2_5 : Hid (RdE w5 e2 em) := T2_4.out.later hB
  have S2_5 : Hid (RdS w5 s2 tx) := S2_4.out.later hB
  have D2_5 : Hid (RdB w5 b2 did) := D2_4.out.later hB
  have z5 : w4.heap.size ≤ w5.heap.size := hB.size
  clear hb hB HB_4 RL_4 T1_4 S1_4 D1_4 T2_4 S2_4 D2_4 
  go_wp2_with fail
  refine (sameBools_b b1 b2 dn bc1 bc2 did _ HD.out (by omega) D1_5.out D2_5.out).mono ?_
  rintro e w6 ⟨rfl, hb⟩
  have hB : Below w5.heap.size w5 w6 := hb
  have HB_6 : Hid (Below w.heap.size w w6) := HB_5.out.trans (hB.mono HB_5.out.size)
  have RL_6 : Hid (RdK w6 la xs) := RL_5.out.later hB
  have T1_6 : Hid (RdE w6 e1 em) := T1_5.out.later hB
  have S1_6 : Hid (RdS w6 s1 tx) := S1_5.out.later hB
  have D1_6 : Hid (RdB w6 b1 did) := D1_5.out.later hB
  have z6 : w5.heap.size ≤ w6.heap.size := hB.size
  clear hb hB HB_5 RL_5 T1_5 S1_5 D1_5 T2_5 S2_5 D2_5 
  go_wp2_with fail
  refine (implErase_c la q lc xs _ HX.out (by omega) RL_6.out te true HF2.out ne HNe.out).mono ?_
  rintro e w7 ⟨x3, xc3, rfl, ho, hb⟩
  have hB : Below w6.heap.size w6 w7 := hb
  have HB_7 : Hid (Below w.heap.size w w7) := HB_6.out.trans (hB.mono HB_6.out.size)
  have RL_7 : Hid (RdK w7 la xs) := RL_6.out.later hB
  have T1_7 : Hid (RdE w7 e1 em) := T1_6.out.later hB
  have S1_7 : Hid (RdS w7 s1 tx) := S1_6.out.later hB
  have D1_7 : Hid (RdB w7 b1 did) := D1_6.out.later hB
  have z7 : w6.heap.size ≤ w7.heap.size := hB.size
  have X3_7 : Hid (RdK w7 x3 te) := ho.rd'.2
  clear hb hB HB_6 RL_6 T1_6 S1_6 D1_6 
  clear ho
  go_wp2_with fail
  refine (play_both implPlay_yes implPlay_no y x3 ne xc3 te _ HNe.out (by omega) X3_7.out HZ2.out em tx2 did2 true HF3.out p ne HE.out HD2.out).mono ?_
  rintro e w8 ⟨e4, ec4, s4, sc4, b4, bc4, rfl, hoe, hos, hob, hb⟩
  have hB : Below w7.heap.size w7 w8 := hb
  have HB_8 : Hid (Below w.heap.size w w8) := HB_7.out.trans (hB.mono HB_7.out.size)
  have RL_8 : Hid (RdK w8 la xs) := RL_7.out.later hB
  have T1_8 : Hid (RdE w8 e1 em) := T1_7.out.later hB
  have S1_8 : Hid (RdS w8 s1 tx) := S1_7.out.later hB
  have D1_8 : Hid (RdB w8 b1 did) := D1_7.out.later hB
  have X3_8 : Hid (RdK w8 x3 te) := X3_7.out.later hB
  have z8 : w7.heap.size ≤ w8.heap.size := hB.size
  have T4_8 : Hid (RdE w8 e4 em) := hoe.rd'.2
  clear hb hB HB_7 RL_7 T1_7 S1_7 D1_7 X3_7 
  clear hoe hos hob
  go_wp2_with fail
  refine (implTrace_c y (ne : Int) _ em true HF4.out p HE.out).mono ?_
  rintro e w9 ⟨e5, ec5, rfl, ho, hb⟩
  have hB : Below w8.heap.size w8 w9 := hb
  have HB_9 : Hid (Below w.heap.size w w9) := HB_8.out.trans (hB.mono HB_8.out.size)
  have RL_9 : Hid (RdK w9 la xs) := RL_8.out.later hB
  have T1_9 : Hid (RdE w9 e1 em) := T1_8.out.later hB
  have S1_9 : Hid (RdS w9 s1 tx) := S1_8.out.later hB
  have D1_9 : Hid (RdB w9 b1 did) := D1_8.out.later hB
  have X3_9 : Hid (RdK w9 x3 te) := X3_8.out.later hB
  have T4_9 : Hid (RdE w9 e4 em) := T4_8.out.later hB
  have z9 : w8.heap.size ≤ w9.heap.size := hB.size
  have T5_9 : Hid (RdE w9 e5 em) := ho.rd'.2
  clear hb hB HB_8 RL_8 T1_8 S1_8 D1_8 X3_8 T4_8 
  clear ho
  go_wp2_with fail
  refine (sameTrace_b e4 e1 p ec4 ec1 em _ HE.out (by omega) T4_9.out T1_9.out).mono ?_
  rintro e w10 ⟨rfl, hb⟩
  have hB : Below w9.heap.size w9 w10 := hb
  have HB_10 : Hid (Below w.heap.size w w10) := HB_9.out.trans (hB.mono HB_9.out.size)
  have RL_10 : Hid (RdK w10 la xs) := RL_9.out.later hB
  have T1_10 : Hid (RdE w10 e1 em) := T1_9.out.later hB
  have S1_10 : Hid (RdS w10 s1 tx) := S1_9.out.later hB
  have D1_10 : Hid (RdB w10 b1 did) := D1_9.out.later hB
  have X3_10 : Hid (RdK w10 x3 te) := X3_9.out.later hB
  have T4_10 : Hid (RdE w10 e4 em) := T4_9.out.later hB
  have T5_10 : Hid (RdE w10 e5 em) := T5_9.out.later hB
  have z10 : w9.heap.size ≤ w10.heap.size := hB.size
  clear hb hB HB_9 RL_9 T1_9 S1_9 D1_9 X3_9 T4_9 T5_9 
  go_wp2_with fail
  refine (sameTrace_b e5 e1 p ec5 ec1 em _ HE.out (by omega) T5_10.out T1_10.out).mono ?_
  rintro e w11 ⟨rfl, hb⟩
  have hB : Below w10.heap.size w10 w11 := hb
  have HB_11 : Hid (Below w.heap.size w w11) := HB_10.out.trans (hB.mono HB_10.out.size)
  have RL_11 : Hid (RdK w11 la xs) := RL_10.out.later hB
  have S1_11 : Hid (RdS w11 s1 tx) := S1_10.out.later hB
  have D1_11 : Hid (RdB w11 b1 did) := D1_10.out.later hB
  have z11 : w10.heap.size ≤ w11.heap.size := hB.size
  clear hb hB HB_10 RL_10 T1_10 S1_10 D1_10 X3_10 T4_10 T5_10 
  obtain ⟨B, hB9⟩ : ∃ B, B = w11.heap.size := ⟨_, rfl⟩
  have HBB : Hid (B = w11.heap.size) := hB9
  clear hB9
  go_wp2
  go_loopw [23, 141] (fun v iv wr => ∃ k : Nat, k ≤ q ∧ iv = .int .i64 k ∧ Hid (OwnS wr B v (saidL (xs.take k) (did.take k))) ∧ Hid (Below w11.heap.size w11 wr)) (fun _ iv _ => q - (intOf iv).toNat)
  case atStart => exact ⟨0, Nat.zero_le _, rfl, World.ownsRow_nil _ _ _ _, Below.refl _ _⟩
  case round =>
    obtain ⟨k, hk, rfl, HO, HBr⟩ := hrel
    by_cases hlt : k < q
    · have hkl : k < xs.length := by rw [HX.out]; exact hlt
      have hkd : k < did.length := by rw [HD.out]; omega
      obtain ⟨ba, oa, rfl, g0, g1⟩ := (RL_11.out.later HBr.out).get hkl
      obtain ⟨bb, ob, rfl, g2⟩ := rdB_get (D1_11.out.later HBr.out) hkd
      have hsucc := saidL_succ hkl hkd
      have hlen : (saidL (xs.take k) (did.take k)).length ≤ 80 := Nat.le_trans (saidL_len _ _) (by rw [List.length_take]; omega)
      generalize (xs.getD k (0, ByteArray.empty)).1 = xk at *
      generalize (xs.getD k (0, ByteArray.empty)).2 = xt at *
      generalize did.getD k false = db at *
      generalize saidL (xs.take k) (did.take k) = sk at *
      have h0 : (0 : Int) ≤ (k : Int) := by omega
      have hlk : (k : Int) < (q : Int) := by omega
      have hld : (k : Int) < (dn : Int) := by omega
      have ba1 := balloc wr (.cells #[.int .i64 xk, .string xt] 39)
      have g2a : (wr.alloc (.cells #[.int .i64 xk, .string xt] 39)).cell? ⟨bb, ob + k, none⟩ = some (.bool db) := calloc g2
      have hB1 : Hid (Below w11.heap.size w11 (wr.alloc (.cells #[.int .i64 xk, .string xt] 39))) := HBr.out.alloc HBr.out.size _
      have HO1 : Hid (OwnS (wr.alloc (.cells #[.int .i64 xk, .string xt] 39)) B u23 sk) := HO.out.later ba1
      clear hkl hkd ba1
      by_cases hdb : db = true ∧ xk = 1
      · rw [if_pos hdb] at hsucc
        have HSu : Hid (saidL (xs.take (k + 1)) (did.take (k + 1)) = sk ++ [xt]) := hsucc
        have hdt := hdb.1
        have hx1 : (xk == 1) = true := by simpa using hdb.2
        have bb1 := balloc (wr.alloc (.cells #[.int .i64 xk, .string xt] 39)) (.cells #[.string xt] 9)
        obtain ⟨v', w', r1, hown', hgrow, hbel⟩ := appendS_run ((wr.alloc (.cells #[.int .i64 xk, .string xt] 39)).alloc (.cells #[.string xt] 9)) B u23 sk [xt] (some ⟨(wr.alloc (.cells #[.int .i64 xk, .string xt] 39)).heap.size, 0, none⟩) 1 1 (HO1.out.later bb1) (litS _ xt) rfl (fun h => by cases h) (by omega) (by have := HBr.out.size; have := HBB.out; simp; omega)
        have HO2 : Hid (OwnS w' B v' (sk ++ [xt])) := hown'
        have HB2 : Hid (Below w11.heap.size w11 w') := (hB1.out.alloc hB1.out.size _).trans (hbel.mono (by rw [HBB.out]; exact Nat.le_refl _))
        rw [show (wr.alloc (.cells #[.int .i64 xk, .string xt] 39)).heap.size = wr.heap.size + 1 by simp] at r1
        clear hown' hgrow hbel bb1 hsucc hdb
        subst hdt
        go_wp2_with (at_builtin; refine Lib.wpList_append_run _ rfl _ _ _ _ rfl _ _ rfl rfl _ _ (r1 _) ?_; clear r1)
        go_wp2
        go_roundw
        case rel => exact ⟨k + 1, by omega, by go_num, (by show OwnS _ _ _ _; rw [HSu.out]; exact HO2.out), HB2⟩
        case measure => simp [intOf]; omega
      · rw [if_neg hdb] at hsucc
        have HSu : Hid (saidL (xs.take (k + 1)) (did.take (k + 1)) = sk) := hsucc
        clear hsucc
        by_cases hdt : db = true
        · have hx1 : (xk == 1) = false := by rw [beq_eq_false_iff_ne]; exact fun e => hdb ⟨hdt, e⟩
          clear hdb
          subst hdt
          go_wp2
          go_roundw
          case rel => exact ⟨k + 1, by omega, by go_num, (by show OwnS _ _ _ _; rw [HSu.out]; exact HO1.out), hB1⟩
          case measure => simp [intOf]; omega
        · rw [Bool.not_eq_true] at hdt
          clear hdb
          subst hdt
          go_wp2
          go_roundw
          case rel => exact ⟨k + 1, by omega, by go_num, (by show OwnS _ _ _ _; rw [HSu.out]; exact HO1.out), hB1⟩
          case measure => simp [intOf]; omega
    obtain rfl : q = k := by omega
    rw [List.take_of_length_le (by rw [HX.out]; exact Nat.le_refl _), List.take_of_length_le (by rw [HD.out]; omega)] at HO
    obtain ⟨sa, sc, hsv⟩ := HO.out.shape
    have hsl := saidL_len xs did
    rw [HX.out] at hsl
    have hO9 := HO.out
    generalize saidL xs did = sd at *
    obtain ⟨ns, hns⟩ : ∃ z, sd.length = z := ⟨_, rfl⟩
    rw [hns] at hsv hsl
    subst hsv
    have HNs : Hid (sd.length = ns) := hns
    clear hns
    obtain ⟨w12, hw9⟩ : ∃ z, wr = z := ⟨_, rfl⟩
    rw [hw9] at HBr hO9 ⊢
    have hB : Below w11.heap.size w11 w12 := HBr.out
    have HB_12 : Hid (Below w.heap.size w w12) := HB_11.out.trans (hB.mono HB_11.out.size)
    have RL_12 : Hid (RdK w12 la xs) := RL_11.out.later hB
    have S1_12 : Hid (RdS w12 s1 tx) := S1_11.out.later hB
    have D1_12 : Hid (RdB w12 b1 did) := D1_11.out.later hB
    have RS_12 : Hid (RdS w12 sa sd) := hO9.rd'.2
    clear hB hO9 HO HBr hw9 HB_11 RL_11 S1_11 D1_11
    go_wp2
    go_loop [26, 163] (fun kv iv => ∃ (i kk : Nat), i ≤ p ∧ iv = .int .i64 i ∧ kv = .int .i64 kk ∧ kk ≤ ns ∧ Hid (gK sd (tx.take i) = kk)) (fun _ iv => p - (intOf iv).toNat)
    case atStart => exact ⟨0, 0, Nat.zero_le _, rfl, rfl, Nat.zero_le _, (by show _ = _; rw [List.take_zero]; rfl)⟩
    case round =>
      obtain ⟨i, kk, hi, rfl, rfl, hkk, HK⟩ := hrel
      by_cases hlt2 : i < p
      · have hil : i < tx.length := by rw [HT.out]; exact hlt2
        have hfi := HFine.out i hil
        rw [HK.out] at hfi
        have hgk : gK sd (tx.take (i + 1)) = gStep sd kk (tx.getD i ByteArray.empty) := by rw [gK_take hil, HK.out]
        unfold gStep at hgk
        rw [HNs.out] at hfi hgk
        obtain ⟨ba, oa, rfl, g0⟩ := RdS.get (S1_12.out) hil
        generalize tx.getD i ByteArray.empty = xt at *
        have h0 : (0 : Int) ≤ (i : Int) := by omega
        have hl2 : (i : Int) < (p : Int) := by omega
        have hk0 : (0 : Int) ≤ (kk : Int) := by omega
        clear hil
        by_cases hks : kk < ns
        · obtain ⟨bs, os, rfl, g1⟩ := RdS.get (RS_12.out) (k := kk) (by rw [HNs.out]; exact hks)
          generalize sd.getD kk ByteArray.empty = st at *
          have hks2 : (kk : Int) < (ns : Int) := by omega
          by_cases hst : st = xt
          · rw [if_pos ⟨hks, hst⟩] at hgk
            have HG : Hid (gK sd (tx.take (i + 1)) = kk + 1) := hgk
            have e1 : (st.toList == xt.toList) = true := by rw [hst]; simp
            clear hgk hfi hst
            go_wp2
            go_round
            case rel => exact ⟨i + 1, kk + 1, by omega, by go_num, by go_num, by omega, HG⟩
            case measure => simp [intOf]; omega
          · rw [if_neg (fun h => hst h.2)] at hgk
            have hxe : xt = ByteArray.empty := by rcases hfi with h | h; exact absurd h.2 hst; exact h
            have HG : Hid (gK sd (tx.take (i + 1)) = kk) := hgk
            have e1 : (st.toList == xt.toList) = false := by rw [beq_eq_false_iff_ne]; exact fun h => hst (tl_inj h)
            have e2 : xt.toList.isEmpty = true := by rw [hxe]; decide +kernel
            clear hgk hfi hst hxe
            go_wp2
            go_round
            case rel => exact ⟨i + 1, kk, by omega, by go_num, rfl, by omega, HG⟩
            case measure => simp [intOf]; omega
        · rw [if_neg (fun h => hks h.1)] at hgk
          have hxe : xt = ByteArray.empty := by rcases hfi with h | h; exact absurd h.1 hks; exact h
          have HG : Hid (gK sd (tx.take (i + 1)) = kk) := hgk
          have hks2 : ¬ (kk : Int) < (ns : Int) := by omega
          clear hgk hfi
          subst hxe
          go_wp2
          go_round
          case rel => exact ⟨i + 1, kk, by omega, by go_num, rfl, by omega, HG⟩
          case measure => simp [intOf]; omega
      · clear hkk HK
        go_wp2_with fail
        refine (drawErase_c bo m d _ hm (HM.out.later HB_12.out HB_12.out.size)).mono ?_
        rintro e w13 ⟨za, zq, zc, zs, rfl, hzq, hz81, hzst, hok, hb⟩
        have hB : Below w12.heap.size w12 w13 := hb
        have HB_13 : Hid (Below w.heap.size w w13) := HB_12.out.trans (hB.mono HB_12.out.size)
        have z13 : w12.heap.size ≤ w13.heap.size := hB.size
        have RZ_13 : Hid (RdK w13 za zs) := hok.rd'.2
        clear hb hB HB_12 
        clear hok hzst
        have HZQ : Hid (zs.length = zq) := hzq
        obtain ⟨l2, f2, hF6⟩ : ∃ l2 f2, eraseF zs = (l2, f2) := ⟨_, _, rfl⟩
        have hp28 : l2.length ≤ 81 := by
          unfold eraseF at hF6
          split at hF6
          · simp only [Prod.mk.injEq] at hF6; rw [← hF6.1]; have := ticksL_le zs; omega
          · simp only [Prod.mk.injEq] at hF6; rw [← hF6.1]; simp
        obtain ⟨p2, hp2⟩ : ∃ z, l2.length = z := ⟨_, rfl⟩
        rw [hp2] at hp28
        have HF6 : Hid (eraseF zs = (l2, f2)) := hF6
        have HP2 : Hid (l2.length = p2) := hp2
        have hf2 : (f2 != f2) = false := by simp
        have hpp2 : ((p2 : Int) != (p2 : Int)) = false := by simp
        clear hzq hF6 hp2
        go_wp2_with fail
        refine (implErase_c za zq zc zs _ HZQ.out (by omega) RZ_13.out l2 f2 HF6.out p2 HP2.out).mono ?_
        rintro e w14 ⟨x1, xc1, rfl, ho, hb⟩
        have hB : Below w13.heap.size w13 w14 := hb
        have HB_14 : Hid (Below w.heap.size w w14) := HB_13.out.trans (hB.mono HB_13.out.size)
        have RZ_14 : Hid (RdK w14 za zs) := RZ_13.out.later hB
        have z14 : w13.heap.size ≤ w14.heap.size := hB.size
        have X1_14 : Hid (RdK w14 x1 l2) := ho.rd'.2
        clear hb hB HB_13 RZ_13 
        clear ho
        go_wp2_with fail
        refine (specErase_c za zq zc zs _ HZQ.out (by omega) RZ_14.out l2 f2 HF6.out p2 HP2.out).mono ?_
        rintro e w15 ⟨x2, xc2, rfl, ho, hb⟩
        have hB : Below w14.heap.size w14 w15 := hb
        have HB_15 : Hid (Below w.heap.size w w15) := HB_14.out.trans (hB.mono HB_14.out.size)
        have X1_15 : Hid (RdK w15 x1 l2) := X1_14.out.later hB
        have z15 : w14.heap.size ≤ w15.heap.size := hB.size
        have X2_15 : Hid (RdK w15 x2 l2) := ho.rd'.2
        clear hb hB HB_14 RZ_14 X1_14 
        clear ho
        go_wp2_with fail
        refine (drawTrace_c bo m d _ hm (HM.out.later HB_15.out HB_15.out.size)).mono ?_
        rintro e w16 ⟨ty, tn, rfl, hty, htn, hb⟩
        have hB : Below w15.heap.size w15 w16 := hb
        have HB_16 : Hid (Below w.heap.size w w16) := HB_15.out.trans (hB.mono HB_15.out.size)
        have X1_16 : Hid (RdK w16 x1 l2) := X1_15.out.later hB
        have X2_16 : Hid (RdK w16 x2 l2) := X2_15.out.later hB
        have z16 : w15.heap.size ≤ w16.heap.size := hB.size
        clear hb hB HB_15 X1_15 X2_15 
        obtain ⟨l3, f3, hF7⟩ : ∃ l3 f3, traceF ty tn = (l3, f3) := ⟨_, _, rfl⟩
        have hp38 : l3.length ≤ 81 := by
          unfold traceF at hF7
          split at hF7
          · simp only [Prod.mk.injEq] at hF7; rw [← hF7.1, traceL_length]; omega
          · simp only [Prod.mk.injEq] at hF7; rw [← hF7.1]; simp
        obtain ⟨p3, hp3⟩ : ∃ z, l3.length = z := ⟨_, rfl⟩
        rw [hp3] at hp38
        have HF7 : Hid (traceF ty tn = (l3, f3)) := hF7
        have HP3 : Hid (l3.length = p3) := hp3
        have hf3 : (f3 != f3) = false := by simp
        clear hF7 hp3 hty htn
        go_wp2_with fail
        refine (implTrace_c ty tn _ l3 f3 HF7.out p3 HP3.out).mono ?_
        rintro e w17 ⟨v1, vc1, rfl, ho, hb⟩
        have hB : Below w16.heap.size w16 w17 := hb
        have HB_17 : Hid (Below w.heap.size w w17) := HB_16.out.trans (hB.mono HB_16.out.size)
        have X1_17 : Hid (RdK w17 x1 l2) := X1_16.out.later hB
        have X2_17 : Hid (RdK w17 x2 l2) := X2_16.out.later hB
        have z17 : w16.heap.size ≤ w17.heap.size := hB.size
        have V1_17 : Hid (RdE w17 v1 l3) := ho.rd'.2
        clear hb hB HB_16 X1_16 X2_16 
        clear ho
        go_wp2_with fail
        refine (specTrace_c ty tn _ l3 f3 HF7.out p3 HP3.out).mono ?_
        rintro e w18 ⟨v2, vc2, rfl, ho, hb⟩
        have hB : Below w17.heap.size w17 w18 := hb
        have HB_18 : Hid (Below w.heap.size w w18) := HB_17.out.trans (hB.mono HB_17.out.size)
        have X1_18 : Hid (RdK w18 x1 l2) := X1_17.out.later hB
        have X2_18 : Hid (RdK w18 x2 l2) := X2_17.out.later hB
        have V1_18 : Hid (RdE w18 v1 l3) := V1_17.out.later hB
        have z18 : w17.heap.size ≤ w18.heap.size := hB.size
        have V2_18 : Hid (RdE w18 v2 l3) := ho.rd'.2
        clear hb hB HB_17 X1_17 X2_17 V1_17 
        clear ho
        go_wp2_with fail
        refine (sameTrace_b v1 v2 p3 vc1 vc2 l3 _ HP3.out (by omega) V1_18.out V2_18.out).mono ?_
        rintro e w19 ⟨rfl, hb⟩
        have hB : Below w18.heap.size w18 w19 := hb
        have HB_19 : Hid (Below w.heap.size w w19) := HB_18.out.trans (hB.mono HB_18.out.size)
        have X1_19 : Hid (RdK w19 x1 l2) := X1_18.out.later hB
        have X2_19 : Hid (RdK w19 x2 l2) := X2_18.out.later hB
        have z19 : w18.heap.size ≤ w19.heap.size := hB.size
        clear hb hB HB_18 X1_18 X2_18 V1_18 V2_18 
        go_wp2
        go_loopw [236] (fun iv wr => ∃ k : Nat, k ≤ p2 ∧ iv = .int .i64 k ∧ Hid (Below w19.heap.size w19 wr)) (fun iv _ => p2 - (intOf iv).toNat)
        case atStart => exact ⟨0, Nat.zero_le _, rfl, Below.refl _ _⟩
        case round =>
          obtain ⟨k, hk, rfl, HBr⟩ := hrel
          by_cases hlt : k < p2
          · obtain ⟨ba, oa, rfl, g0, g1⟩ := (X1_19.out.later HBr.out).get (k := k) (by rw [HP2.out]; exact hlt)
            obtain ⟨bb, ob, rfl, g2, g3⟩ := (X2_19.out.later HBr.out).get (k := k) (by rw [HP2.out]; exact hlt)
            have heq := fun wx => run_neq_step (l2.getD k (0, ByteArray.empty)).1 (l2.getD k (0, ByteArray.empty)).2 wx
            generalize (l2.getD k (0, ByteArray.empty)).1 = xk at *
            generalize (l2.getD k (0, ByteArray.empty)).2 = xt at *
            have h0 : (0 : Int) ≤ (k : Int) := by omega
            have hlk : (k : Int) < (p2 : Int) := by omega
            go_wp2
            go_quiet (fail)
            go_wp2
            go_roundw
            case rel => exact ⟨k + 1, by omega, by go_num, below_drewN HBr.out _⟩
            case measure => simp [intOf]; omega
          · go_wp2
            go_ret
            exact ⟨rfl, HB_19.out.trans (HBr.out.mono HB_19.out.size)⟩

end Go.Proofs.Yteopaocomfepfaa
