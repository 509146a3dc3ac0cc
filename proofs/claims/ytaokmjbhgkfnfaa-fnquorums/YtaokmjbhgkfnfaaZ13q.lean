/- Chapter 13: CertifiedIn, CommonHonest of the program. -/
import Derived.Test.YtaokmjbhgkfnfaaY13q
namespace Go.Proofs.Ytaokmjbhgkfnfaa
set_option linter.unusedVariables false
set_option maxRecDepth 1000000
set_option linter.unusedSimpArgs false
open Go.RowKit

def nOf (f : Int) : Nat := (3 * f + 1).toNat
def qOf (f : Int) : Nat := (2 * f + 1).toNat
def certB (b : BdV) (ep : Int) : Bool := goodBd b && inB ep 0 20
def certV (b : BdV) (ep : Int) : List Int := if certB b ep = true then certL (nOf b.f) (qOf b.f) ep b.sg else []
def comB (b : BdV) (ep x y : Int) : Bool := goodBd b && (inB ep 0 20 && (inB x 0 9 && inB y 0 9))
def comV (b : BdV) (ep x y : Int) : List Int := if comB b ep x y = true then comL (nOf b.f) ep b.li b.sg x y else []

theorem sit_ok {f e : Int} {sa : Option Addr} {sn sc : Nat} {la : Option Addr} {ln lc : Nat} {ta : Option Addr} {tn tc : Nat} {sg : List (List Int)} {li ls : List Int} (ep : Int) (hs : sg.length = sn) (hg : goodBd ⟨f, e, sg, li, ls⟩ = true) (wx : World) (h : RdII wx sa sg) :
  Calls Try.prog 63 #[.agg #[.int .i64 f, .int .i64 e, .slice sa sn sc, .slice la ln lc, .slice ta tn tc], .int .i64 ep] wx fun x w' => ∃ g, x = .returned (.agg #[.int .i64 f, .slice la ln lc, .slice (some ⟨g, 0, none⟩) (nOf f) (nOf f)]) ∧ RdII w' (some ⟨g, 0, none⟩) (sitL (nOf f) ep sg) ∧ Below wx.heap.size wx w' := by
 have G := good_is hg
 exact sittingIn_c f e sa sn sc la ln lc ta tn tc ep (nOf f) sg wx G.f0 G.f2 G.fN hs h G.sgOk

set_option maxHeartbeats 2000000 in
theorem implCert_c (f e : Int) (sa : Option Addr) (sn sc : Nat) (la : Option Addr) (ln lc : Nat) (ta : Option Addr) (tn tc : Nat) (sg : List (List Int)) (li ls : List Int) (ep : Int) (w : World) (hs : sg.length = sn) (hsn : sn ≤ 1048576) (hl : li.length = ln) (hln : ln ≤ 1048576) (ht : ls.length = tn) (htn : tn ≤ 1048576) (hrs : RdII w sa sg) (hrl : Rd w la li) (hrt : Rd w ta ls) :
  Calls Try.prog 18 #[.agg #[.int .i64 f, .int .i64 e, .slice sa sn sc, .slice la ln lc, .slice ta tn tc], .int .i64 ep] w fun r w' => ∃ a' n' c', r = .returned (.tuple #[.slice a' n' c', .bool (certB ⟨f, e, sg, li, ls⟩ ep)]) ∧ Own w' w.heap.size (.slice a' n' c') (certV ⟨f, e, sg, li, ls⟩ ep) ∧ Below w.heap.size w w' := by
 have hV : certV ⟨f, e, sg, li, ls⟩ ep = (if certB ⟨f, e, sg, li, ls⟩ ep = true then certL (nOf f) (qOf f) ep sg else []) := rfl
 have q0 := fun wx (h1 : RdII wx sa sg) (h2 : Rd wx la li) (h3 : Rd wx ta ls) => implGood_c f e sa sn sc la ln lc ta tn tc sg li ls wx hs hsn hl hln ht htn h1 h2 h3
 cases hg : goodBd ⟨f, e, sg, li, ls⟩
 ·rw [hg] at q0
  have hB : certB ⟨f, e, sg, li, ls⟩ ep = false := by simp [certB, hg]
  rw [hB] at hV ⊢
  rw [hV]
  clear hV hB hs hl ht
  have HB_0 : Hid (Below w.heap.size w w) := Below.refl _ _
  have RS_0 : Hid (RdII w sa sg) := hrs
  have RL_0 : Hid (Rd w la li) := hrl
  have RT_0 : Hid (Rd w ta ls) := hrt
  clear hrs hrl hrt
  have hHB := HB_0.out.alloc HB_0.out.size (.cells #[.int .i64 f, .int .i64 e, .slice sa sn sc, .slice la ln lc, .slice ta tn tc] 29)
  have hRS := RS_0.out.later (balloc w (.cells #[.int .i64 f, .int .i64 e, .slice sa sn sc, .slice la ln lc, .slice ta tn tc] 29))
  have hRL := RL_0.out.later (balloc w (.cells #[.int .i64 f, .int .i64 e, .slice sa sn sc, .slice la ln lc, .slice ta tn tc] 29))
  have hRT := RT_0.out.later (balloc w (.cells #[.int .i64 f, .int .i64 e, .slice sa sn sc, .slice la ln lc, .slice ta tn tc] 29))
  have hA := x5_new w (.int .i64 f) (.int .i64 e) (.slice sa sn sc) (.slice la ln lc) (.slice ta tn tc) 29 w.heap.size rfl
  have hz : (w.alloc (.cells #[.int .i64 f, .int .i64 e, .slice sa sn sc, .slice la ln lc, .slice ta tn tc] 29)).heap.size = w.heap.size + 1 := by simp
  obtain ⟨w1, hV1⟩ : ∃ V, w.alloc (.cells #[.int .i64 f, .int .i64 e, .slice sa sn sc, .slice la ln lc, .slice ta tn tc] 29) = V := ⟨_, rfl⟩
  rw [hV1] at hHB hRS hRL hRT hA hz
  have HB_1 : Hid (Below w.heap.size w w1) := hHB
  have RS_1 : Hid (RdII w1 sa sg) := hRS
  have RL_1 : Hid (Rd w1 la li) := hRL
  have RT_1 : Hid (Rd w1 ta ls) := hRT
  have A_1 : Hid (X5 w1 w.heap.size (.int .i64 f) (.int .i64 e) (.slice sa sn sc) (.slice la ln lc) (.slice ta tn tc)) := hA
  have z1 : w.heap.size + 1 ≤ w1.heap.size := by omega
  clear HB_0 RS_0 RL_0 RT_0 hHB hRS hRL hRT hA hz
  go_enter Try.func18, Try.ntmps18
  obtain ⟨⟨Aq0, Aq1, Aq2, Aq3, Aq4⟩, Af⟩ := id (A_1.out)
  clear Af
  go_wp2_with fail
  clear hV1
  refine (q0 _ RS_1.out RL_1.out RT_1.out).mono ?_
  clear Aq0 Aq1 Aq2 Aq3 Aq4
  rintro e w2 ⟨rfl, hb⟩
  have hB : Below w1.heap.size w1 w2 := hb
  have HB_2 : Hid (Below w.heap.size w w2) := HB_1.out.trans (hB.mono HB_1.out.size)
  have RS_2 : Hid (RdII w2 sa sg) := RS_1.out.later hB
  have RL_2 : Hid (Rd w2 la li) := RL_1.out.later hB
  have RT_2 : Hid (Rd w2 ta ls) := RT_1.out.later hB
  have A_2 : Hid (X5 w2 w.heap.size (.int .i64 f) (.int .i64 e) (.slice sa sn sc) (.slice la ln lc) (.slice ta tn tc)) := A_1.out.later hB
  have z2 : w1.heap.size ≤ w2.heap.size := hB.size
  clear hb hB HB_1 RS_1 RL_1 RT_1 A_1
  go_wp2
  refine bodyPost_ret (v := .tuple #[.slice none 0 0, .bool false]) (by simp [results, Try.results18, go_sem]; try rfl) rfl ?_
  exact ⟨_, _, _, rfl, World.ownsRow_nil _ _ _ _, HB_2.out⟩
 have G := good_is hg
 rw [hg] at q0
 have q1 := fun wx => isEpoch_c ep wx
 cases hq1 : inB ep 0 20
 ·rw [hq1] at q1
  have hB : certB ⟨f, e, sg, li, ls⟩ ep = false := by simp [certB, hg, hq1]
  rw [hB] at hV ⊢
  rw [hV]
  clear hV hB hs hl ht
  have HB_0 : Hid (Below w.heap.size w w) := Below.refl _ _
  have RS_0 : Hid (RdII w sa sg) := hrs
  have RL_0 : Hid (Rd w la li) := hrl
  have RT_0 : Hid (Rd w ta ls) := hrt
  clear hrs hrl hrt
  have hHB := HB_0.out.alloc HB_0.out.size (.cells #[.int .i64 f, .int .i64 e, .slice sa sn sc, .slice la ln lc, .slice ta tn tc] 29)
  have hRS := RS_0.out.later (balloc w (.cells #[.int .i64 f, .int .i64 e, .slice sa sn sc, .slice la ln lc, .slice ta tn tc] 29))
  have hRL := RL_0.out.later (balloc w (.cells #[.int .i64 f, .int .i64 e, .slice sa sn sc, .slice la ln lc, .slice ta tn tc] 29))
  have hRT := RT_0.out.later (balloc w (.cells #[.int .i64 f, .int .i64 e, .slice sa sn sc, .slice la ln lc, .slice ta tn tc] 29))
  have hA := x5_new w (.int .i64 f) (.int .i64 e) (.slice sa sn sc) (.slice la ln lc) (.slice ta tn tc) 29 w.heap.size rfl
  have hz : (w.alloc (.cells #[.int .i64 f, .int .i64 e, .slice sa sn sc, .slice la ln lc, .slice ta tn tc] 29)).heap.size = w.heap.size + 1 := by simp
  obtain ⟨w1, hV1⟩ : ∃ V, w.alloc (.cells #[.int .i64 f, .int .i64 e, .slice sa sn sc, .slice la ln lc, .slice ta tn tc] 29) = V := ⟨_, rfl⟩
  rw [hV1] at hHB hRS hRL hRT hA hz
  have HB_1 : Hid (Below w.heap.size w w1) := hHB
  have RS_1 : Hid (RdII w1 sa sg) := hRS
  have RL_1 : Hid (Rd w1 la li) := hRL
  have RT_1 : Hid (Rd w1 ta ls) := hRT
  have A_1 : Hid (X5 w1 w.heap.size (.int .i64 f) (.int .i64 e) (.slice sa sn sc) (.slice la ln lc) (.slice ta tn tc)) := hA
  have z1 : w.heap.size + 1 ≤ w1.heap.size := by omega
  clear HB_0 RS_0 RL_0 RT_0 hHB hRS hRL hRT hA hz
  go_enter Try.func18, Try.ntmps18
  obtain ⟨⟨Aq0, Aq1, Aq2, Aq3, Aq4⟩, Af⟩ := id (A_1.out)
  clear Af
  go_wp2_with fail
  clear hV1
  refine (q0 _ RS_1.out RL_1.out RT_1.out).mono ?_
  clear Aq0 Aq1 Aq2 Aq3 Aq4
  rintro e w2 ⟨rfl, hb⟩
  have hB : Below w1.heap.size w1 w2 := hb
  have HB_2 : Hid (Below w.heap.size w w2) := HB_1.out.trans (hB.mono HB_1.out.size)
  have RS_2 : Hid (RdII w2 sa sg) := RS_1.out.later hB
  have RL_2 : Hid (Rd w2 la li) := RL_1.out.later hB
  have RT_2 : Hid (Rd w2 ta ls) := RT_1.out.later hB
  have A_2 : Hid (X5 w2 w.heap.size (.int .i64 f) (.int .i64 e) (.slice sa sn sc) (.slice la ln lc) (.slice ta tn tc)) := A_1.out.later hB
  have z2 : w1.heap.size ≤ w2.heap.size := hB.size
  clear hb hB HB_1 RS_1 RL_1 RT_1 A_1
  go_wp2_with fail
  refine (q1 _).mono ?_
  rintro e w' ⟨rfl, hw⟩
  subst w'
  go_wp2
  refine bodyPost_ret (v := .tuple #[.slice none 0 0, .bool false]) (by simp [results, Try.results18, go_sem]; try rfl) rfl ?_
  exact ⟨_, _, _, rfl, World.ownsRow_nil _ _ _ _, HB_2.out⟩
 rw [hq1] at q1
 have hB : certB ⟨f, e, sg, li, ls⟩ ep = true := by simp [certB, hg, hq1]
 rw [hB] at hV ⊢
 rw [if_pos rfl] at hV
 rw [hV]
 have HS : Hid (sg.length = sn) := hs
 have HG : Hid (goodBd ⟨f, e, sg, li, ls⟩ = true) := hg
 have HSI := fun wx (h : RdII wx sa sg) => sit_ok (sc := sc) (la := la) (ln := ln) (lc := lc) (ta := ta) (tn := tn) (tc := tc) ep hs hg wx h
 have HC : Hid (∀ g wx, Rd wx la li → RdII wx (some ⟨g, 0, none⟩) (sitL (nOf f) ep sg) → Calls Try.prog 65 #[.agg #[.int .i64 f, .slice la ln lc, .slice (some ⟨g, 0, none⟩) (nOf f) (nOf f)]] wx fun e w' => ∃ a' n' c', e = .returned (.slice a' n' c') ∧ Own w' wx.heap.size (.slice a' n' c') (certL (nOf f) (qOf f) ep sg) ∧ Below wx.heap.size wx w') := fun g wx h h' => by
  have hf1 := G.ln
  have hf2 := G.f2
  rw [← certX_sit]
  exact certified_c f la ln lc _ (nOf f) li (sitL (nOf f) ep sg) (qOf f) wx G.f0 G.f2 (by have := G.f0; unfold qOf; omega) hl (by omega) h G.lr (sitL_length _ _ _) G.N7 h' (sitL_ris _ _ _) (sitL_len (sgsB_all G.sgOk).1)
 obtain ⟨N, hNN⟩ : ∃ N, nOf f = N := ⟨_, rfl⟩
 rw [hNN] at HSI HC ⊢
 clear hV hB hl hs ht hg G hNN
 have HB_0 : Hid (Below w.heap.size w w) := Below.refl _ _
 have RS_0 : Hid (RdII w sa sg) := hrs
 have RL_0 : Hid (Rd w la li) := hrl
 have RT_0 : Hid (Rd w ta ls) := hrt
 clear hrs hrl hrt
 have hHB := HB_0.out.alloc HB_0.out.size (.cells #[.int .i64 f, .int .i64 e, .slice sa sn sc, .slice la ln lc, .slice ta tn tc] 29)
 have hRS := RS_0.out.later (balloc w (.cells #[.int .i64 f, .int .i64 e, .slice sa sn sc, .slice la ln lc, .slice ta tn tc] 29))
 have hRL := RL_0.out.later (balloc w (.cells #[.int .i64 f, .int .i64 e, .slice sa sn sc, .slice la ln lc, .slice ta tn tc] 29))
 have hRT := RT_0.out.later (balloc w (.cells #[.int .i64 f, .int .i64 e, .slice sa sn sc, .slice la ln lc, .slice ta tn tc] 29))
 have hA := x5_new w (.int .i64 f) (.int .i64 e) (.slice sa sn sc) (.slice la ln lc) (.slice ta tn tc) 29 w.heap.size rfl
 have hz : (w.alloc (.cells #[.int .i64 f, .int .i64 e, .slice sa sn sc, .slice la ln lc, .slice ta tn tc] 29)).heap.size = w.heap.size + 1 := by simp
 obtain ⟨w1, hV1⟩ : ∃ V, w.alloc (.cells #[.int .i64 f, .int .i64 e, .slice sa sn sc, .slice la ln lc, .slice ta tn tc] 29) = V := ⟨_, rfl⟩
 rw [hV1] at hHB hRS hRL hRT hA hz
 have HB_1 : Hid (Below w.heap.size w w1) := hHB
 have RS_1 : Hid (RdII w1 sa sg) := hRS
 have RL_1 : Hid (Rd w1 la li) := hRL
 have RT_1 : Hid (Rd w1 ta ls) := hRT
 have A_1 : Hid (X5 w1 w.heap.size (.int .i64 f) (.int .i64 e) (.slice sa sn sc) (.slice la ln lc) (.slice ta tn tc)) := hA
 have z1 : w.heap.size + 1 ≤ w1.heap.size := by omega
 clear HB_0 RS_0 RL_0 RT_0 hHB hRS hRL hRT hA hz
 go_enter Try.func18, Try.ntmps18
 obtain ⟨⟨Aq0, Aq1, Aq2, Aq3, Aq4⟩, Af⟩ := id (A_1.out)
 clear Af
 go_wp2_with fail
 clear hV1
 refine (q0 _ RS_1.out RL_1.out RT_1.out).mono ?_
 clear Aq0 Aq1 Aq2 Aq3 Aq4
 rintro e w2 ⟨rfl, hb⟩
 have hB : Below w1.heap.size w1 w2 := hb
 have HB_2 : Hid (Below w.heap.size w w2) := HB_1.out.trans (hB.mono HB_1.out.size)
 have RS_2 : Hid (RdII w2 sa sg) := RS_1.out.later hB
 have RL_2 : Hid (Rd w2 la li) := RL_1.out.later hB
 have RT_2 : Hid (Rd w2 ta ls) := RT_1.out.later hB
 have A_2 : Hid (X5 w2 w.heap.size (.int .i64 f) (.int .i64 e) (.slice sa sn sc) (.slice la ln lc) (.slice ta tn tc)) := A_1.out.later hB
 have z2 : w1.heap.size ≤ w2.heap.size := hB.size
 clear hb hB HB_1 RS_1 RL_1 RT_1 A_1
 go_wp2_with fail
 refine (q1 _).mono ?_
 rintro e w' ⟨rfl, hw⟩
 subst w'
 obtain ⟨⟨Aq0, Aq1, Aq2, Aq3, Aq4⟩, Af⟩ := id (A_2.out)
 clear Af
 go_wp2_with fail
 refine (HSI _ RS_2.out).mono ?_
 clear Aq0 Aq1 Aq2 Aq3 Aq4
 rintro e w3 ⟨g, rfl, hri, hb⟩
 have hB : Below w2.heap.size w2 w3 := hb
 have HB_3 : Hid (Below w.heap.size w w3) := HB_2.out.trans (hB.mono HB_2.out.size)
 have RS_3 : Hid (RdII w3 sa sg) := RS_2.out.later hB
 have RL_3 : Hid (Rd w3 la li) := RL_2.out.later hB
 have RT_3 : Hid (Rd w3 ta ls) := RT_2.out.later hB
 have A_3 : Hid (X5 w3 w.heap.size (.int .i64 f) (.int .i64 e) (.slice sa sn sc) (.slice la ln lc) (.slice ta tn tc)) := A_2.out.later hB
 have z3 : w2.heap.size ≤ w3.heap.size := hB.size
 have RG_3 : Hid (RdII w3 (some ⟨g, 0, none⟩) (sitL N ep sg)) := hri
 clear hb hB HB_2 RS_2 RL_2 RT_2 A_2 hri
 go_wp2_with fail
 refine (HC.out g _ RL_3.out RG_3.out).mono ?_
 rintro e w4 ⟨a', n', c', rfl, ho, hb⟩
 have hB : Below w3.heap.size w3 w4 := hb
 have HB_4 : Hid (Below w.heap.size w w4) := HB_3.out.trans (hB.mono HB_3.out.size)
 have RS_4 : Hid (RdII w4 sa sg) := RS_3.out.later hB
 have RL_4 : Hid (Rd w4 la li) := RL_3.out.later hB
 have RT_4 : Hid (Rd w4 ta ls) := RT_3.out.later hB
 have A_4 : Hid (X5 w4 w.heap.size (.int .i64 f) (.int .i64 e) (.slice sa sn sc) (.slice la ln lc) (.slice ta tn tc)) := A_3.out.later hB
 have RG_4 : Hid (RdII w4 (some ⟨g, 0, none⟩) (sitL N ep sg)) := RG_3.out.later hB
 have z4 : w3.heap.size ≤ w4.heap.size := hB.size
 have OW_4 : Hid (Own w4 w3.heap.size (.slice a' n' c') (certL N (qOf f) ep sg)) := ho
 clear hb hB HB_3 RS_3 RL_3 RT_3 A_3 RG_3 ho
 go_wp2
 refine bodyPost_ret (v := .tuple #[.slice a' n' c', .bool true]) (by simp [results, Try.results18, go_sem]; try rfl) rfl ?_
 exact ⟨_, _, _, rfl, OW_4.out.mono (by omega), HB_4.out⟩

set_option maxHeartbeats 2000000 in
theorem implCom_c (f e : Int) (sa : Option Addr) (sn sc : Nat) (la : Option Addr) (ln lc : Nat) (ta : Option Addr) (tn tc : Nat) (sg : List (List Int)) (li ls : List Int) (ep x y : Int) (w : World) (hs : sg.length = sn) (hsn : sn ≤ 1048576) (hl : li.length = ln) (hln : ln ≤ 1048576) (ht : ls.length = tn) (htn : tn ≤ 1048576) (hrs : RdII w sa sg) (hrl : Rd w la li) (hrt : Rd w ta ls) :
  Calls Try.prog 24 #[.agg #[.int .i64 f, .int .i64 e, .slice sa sn sc, .slice la ln lc, .slice ta tn tc], .int .i64 ep, .int .i64 x, .int .i64 y] w fun r w' => ∃ a' n' c', r = .returned (.tuple #[.slice a' n' c', .bool (comB ⟨f, e, sg, li, ls⟩ ep x y)]) ∧ Own w' w.heap.size (.slice a' n' c') (comV ⟨f, e, sg, li, ls⟩ ep x y) ∧ Below w.heap.size w w' := by
 have hV : comV ⟨f, e, sg, li, ls⟩ ep x y = (if comB ⟨f, e, sg, li, ls⟩ ep x y = true then comL (nOf f) ep li sg x y else []) := rfl
 have q0 := fun wx (h1 : RdII wx sa sg) (h2 : Rd wx la li) (h3 : Rd wx ta ls) => implGood_c f e sa sn sc la ln lc ta tn tc sg li ls wx hs hsn hl hln ht htn h1 h2 h3
 cases hg : goodBd ⟨f, e, sg, li, ls⟩
 ·rw [hg] at q0
  have hB : comB ⟨f, e, sg, li, ls⟩ ep x y = false := by simp [comB, hg]
  rw [hB] at hV ⊢
  rw [hV]
  clear hV hB hs hl ht
  have HB_0 : Hid (Below w.heap.size w w) := Below.refl _ _
  have RS_0 : Hid (RdII w sa sg) := hrs
  have RL_0 : Hid (Rd w la li) := hrl
  have RT_0 : Hid (Rd w ta ls) := hrt
  clear hrs hrl hrt
  have hHB := HB_0.out.alloc HB_0.out.size (.cells #[.int .i64 f, .int .i64 e, .slice sa sn sc, .slice la ln lc, .slice ta tn tc] 29)
  have hRS := RS_0.out.later (balloc w (.cells #[.int .i64 f, .int .i64 e, .slice sa sn sc, .slice la ln lc, .slice ta tn tc] 29))
  have hRL := RL_0.out.later (balloc w (.cells #[.int .i64 f, .int .i64 e, .slice sa sn sc, .slice la ln lc, .slice ta tn tc] 29))
  have hRT := RT_0.out.later (balloc w (.cells #[.int .i64 f, .int .i64 e, .slice sa sn sc, .slice la ln lc, .slice ta tn tc] 29))
  have hA := x5_new w (.int .i64 f) (.int .i64 e) (.slice sa sn sc) (.slice la ln lc) (.slice ta tn tc) 29 w.heap.size rfl
  have hz : (w.alloc (.cells #[.int .i64 f, .int .i64 e, .slice sa sn sc, .slice la ln lc, .slice ta tn tc] 29)).heap.size = w.heap.size + 1 := by simp
  obtain ⟨w1, hV1⟩ : ∃ V, w.alloc (.cells #[.int .i64 f, .int .i64 e, .slice sa sn sc, .slice la ln lc, .slice ta tn tc] 29) = V := ⟨_, rfl⟩
  rw [hV1] at hHB hRS hRL hRT hA hz
  have HB_1 : Hid (Below w.heap.size w w1) := hHB
  have RS_1 : Hid (RdII w1 sa sg) := hRS
  have RL_1 : Hid (Rd w1 la li) := hRL
  have RT_1 : Hid (Rd w1 ta ls) := hRT
  have A_1 : Hid (X5 w1 w.heap.size (.int .i64 f) (.int .i64 e) (.slice sa sn sc) (.slice la ln lc) (.slice ta tn tc)) := hA
  have z1 : w.heap.size + 1 ≤ w1.heap.size := by omega
  clear HB_0 RS_0 RL_0 RT_0 hHB hRS hRL hRT hA hz
  go_enter Try.func24, Try.ntmps24
  obtain ⟨⟨Aq0, Aq1, Aq2, Aq3, Aq4⟩, Af⟩ := id (A_1.out)
  clear Af
  go_wp2_with fail
  clear hV1
  refine (q0 _ RS_1.out RL_1.out RT_1.out).mono ?_
  clear Aq0 Aq1 Aq2 Aq3 Aq4
  rintro e w2 ⟨rfl, hb⟩
  have hB : Below w1.heap.size w1 w2 := hb
  have HB_2 : Hid (Below w.heap.size w w2) := HB_1.out.trans (hB.mono HB_1.out.size)
  have RS_2 : Hid (RdII w2 sa sg) := RS_1.out.later hB
  have RL_2 : Hid (Rd w2 la li) := RL_1.out.later hB
  have RT_2 : Hid (Rd w2 ta ls) := RT_1.out.later hB
  have A_2 : Hid (X5 w2 w.heap.size (.int .i64 f) (.int .i64 e) (.slice sa sn sc) (.slice la ln lc) (.slice ta tn tc)) := A_1.out.later hB
  have z2 : w1.heap.size ≤ w2.heap.size := hB.size
  clear hb hB HB_1 RS_1 RL_1 RT_1 A_1
  go_wp2
  refine bodyPost_ret (v := .tuple #[.slice none 0 0, .bool false]) (by simp [results, Try.results24, go_sem]; try rfl) rfl ?_
  exact ⟨_, _, _, rfl, World.ownsRow_nil _ _ _ _, HB_2.out⟩
 have G := good_is hg
 rw [hg] at q0
 have q1 := fun wx => isEpoch_c ep wx
 cases hq1 : inB ep 0 20
 ·rw [hq1] at q1
  have hB : comB ⟨f, e, sg, li, ls⟩ ep x y = false := by simp [comB, hg, hq1]
  rw [hB] at hV ⊢
  rw [hV]
  clear hV hB hs hl ht
  have HB_0 : Hid (Below w.heap.size w w) := Below.refl _ _
  have RS_0 : Hid (RdII w sa sg) := hrs
  have RL_0 : Hid (Rd w la li) := hrl
  have RT_0 : Hid (Rd w ta ls) := hrt
  clear hrs hrl hrt
  have hHB := HB_0.out.alloc HB_0.out.size (.cells #[.int .i64 f, .int .i64 e, .slice sa sn sc, .slice la ln lc, .slice ta tn tc] 29)
  have hRS := RS_0.out.later (balloc w (.cells #[.int .i64 f, .int .i64 e, .slice sa sn sc, .slice la ln lc, .slice ta tn tc] 29))
  have hRL := RL_0.out.later (balloc w (.cells #[.int .i64 f, .int .i64 e, .slice sa sn sc, .slice la ln lc, .slice ta tn tc] 29))
  have hRT := RT_0.out.later (balloc w (.cells #[.int .i64 f, .int .i64 e, .slice sa sn sc, .slice la ln lc, .slice ta tn tc] 29))
  have hA := x5_new w (.int .i64 f) (.int .i64 e) (.slice sa sn sc) (.slice la ln lc) (.slice ta tn tc) 29 w.heap.size rfl
  have hz : (w.alloc (.cells #[.int .i64 f, .int .i64 e, .slice sa sn sc, .slice la ln lc, .slice ta tn tc] 29)).heap.size = w.heap.size + 1 := by simp
  obtain ⟨w1, hV1⟩ : ∃ V, w.alloc (.cells #[.int .i64 f, .int .i64 e, .slice sa sn sc, .slice la ln lc, .slice ta tn tc] 29) = V := ⟨_, rfl⟩
  rw [hV1] at hHB hRS hRL hRT hA hz
  have HB_1 : Hid (Below w.heap.size w w1) := hHB
  have RS_1 : Hid (RdII w1 sa sg) := hRS
  have RL_1 : Hid (Rd w1 la li) := hRL
  have RT_1 : Hid (Rd w1 ta ls) := hRT
  have A_1 : Hid (X5 w1 w.heap.size (.int .i64 f) (.int .i64 e) (.slice sa sn sc) (.slice la ln lc) (.slice ta tn tc)) := hA
  have z1 : w.heap.size + 1 ≤ w1.heap.size := by omega
  clear HB_0 RS_0 RL_0 RT_0 hHB hRS hRL hRT hA hz
  go_enter Try.func24, Try.ntmps24
  obtain ⟨⟨Aq0, Aq1, Aq2, Aq3, Aq4⟩, Af⟩ := id (A_1.out)
  clear Af
  go_wp2_with fail
  clear hV1
  refine (q0 _ RS_1.out RL_1.out RT_1.out).mono ?_
  clear Aq0 Aq1 Aq2 Aq3 Aq4
  rintro e w2 ⟨rfl, hb⟩
  have hB : Below w1.heap.size w1 w2 := hb
  have HB_2 : Hid (Below w.heap.size w w2) := HB_1.out.trans (hB.mono HB_1.out.size)
  have RS_2 : Hid (RdII w2 sa sg) := RS_1.out.later hB
  have RL_2 : Hid (Rd w2 la li) := RL_1.out.later hB
  have RT_2 : Hid (Rd w2 ta ls) := RT_1.out.later hB
  have A_2 : Hid (X5 w2 w.heap.size (.int .i64 f) (.int .i64 e) (.slice sa sn sc) (.slice la ln lc) (.slice ta tn tc)) := A_1.out.later hB
  have z2 : w1.heap.size ≤ w2.heap.size := hB.size
  clear hb hB HB_1 RS_1 RL_1 RT_1 A_1
  go_wp2_with fail
  refine (q1 _).mono ?_
  rintro e w' ⟨rfl, hw⟩
  subst w'
  go_wp2
  refine bodyPost_ret (v := .tuple #[.slice none 0 0, .bool false]) (by simp [results, Try.results24, go_sem]; try rfl) rfl ?_
  exact ⟨_, _, _, rfl, World.ownsRow_nil _ _ _ _, HB_2.out⟩
 rw [hq1] at q1
 have q2 := fun wx => isList_c x wx
 cases hq2 : inB x 0 9
 ·rw [hq2] at q2
  have hB : comB ⟨f, e, sg, li, ls⟩ ep x y = false := by simp [comB, hg, hq1, hq2]
  rw [hB] at hV ⊢
  rw [hV]
  clear hV hB hs hl ht
  have HB_0 : Hid (Below w.heap.size w w) := Below.refl _ _
  have RS_0 : Hid (RdII w sa sg) := hrs
  have RL_0 : Hid (Rd w la li) := hrl
  have RT_0 : Hid (Rd w ta ls) := hrt
  clear hrs hrl hrt
  have hHB := HB_0.out.alloc HB_0.out.size (.cells #[.int .i64 f, .int .i64 e, .slice sa sn sc, .slice la ln lc, .slice ta tn tc] 29)
  have hRS := RS_0.out.later (balloc w (.cells #[.int .i64 f, .int .i64 e, .slice sa sn sc, .slice la ln lc, .slice ta tn tc] 29))
  have hRL := RL_0.out.later (balloc w (.cells #[.int .i64 f, .int .i64 e, .slice sa sn sc, .slice la ln lc, .slice ta tn tc] 29))
  have hRT := RT_0.out.later (balloc w (.cells #[.int .i64 f, .int .i64 e, .slice sa sn sc, .slice la ln lc, .slice ta tn tc] 29))
  have hA := x5_new w (.int .i64 f) (.int .i64 e) (.slice sa sn sc) (.slice la ln lc) (.slice ta tn tc) 29 w.heap.size rfl
  have hz : (w.alloc (.cells #[.int .i64 f, .int .i64 e, .slice sa sn sc, .slice la ln lc, .slice ta tn tc] 29)).heap.size = w.heap.size + 1 := by simp
  obtain ⟨w1, hV1⟩ : ∃ V, w.alloc (.cells #[.int .i64 f, .int .i64 e, .slice sa sn sc, .slice la ln lc, .slice ta tn tc] 29) = V := ⟨_, rfl⟩
  rw [hV1] at hHB hRS hRL hRT hA hz
  have HB_1 : Hid (Below w.heap.size w w1) := hHB
  have RS_1 : Hid (RdII w1 sa sg) := hRS
  have RL_1 : Hid (Rd w1 la li) := hRL
  have RT_1 : Hid (Rd w1 ta ls) := hRT
  have A_1 : Hid (X5 w1 w.heap.size (.int .i64 f) (.int .i64 e) (.slice sa sn sc) (.slice la ln lc) (.slice ta tn tc)) := hA
  have z1 : w.heap.size + 1 ≤ w1.heap.size := by omega
  clear HB_0 RS_0 RL_0 RT_0 hHB hRS hRL hRT hA hz
  go_enter Try.func24, Try.ntmps24
  obtain ⟨⟨Aq0, Aq1, Aq2, Aq3, Aq4⟩, Af⟩ := id (A_1.out)
  clear Af
  go_wp2_with fail
  clear hV1
  refine (q0 _ RS_1.out RL_1.out RT_1.out).mono ?_
  clear Aq0 Aq1 Aq2 Aq3 Aq4
  rintro e w2 ⟨rfl, hb⟩
  have hB : Below w1.heap.size w1 w2 := hb
  have HB_2 : Hid (Below w.heap.size w w2) := HB_1.out.trans (hB.mono HB_1.out.size)
  have RS_2 : Hid (RdII w2 sa sg) := RS_1.out.later hB
  have RL_2 : Hid (Rd w2 la li) := RL_1.out.later hB
  have RT_2 : Hid (Rd w2 ta ls) := RT_1.out.later hB
  have A_2 : Hid (X5 w2 w.heap.size (.int .i64 f) (.int .i64 e) (.slice sa sn sc) (.slice la ln lc) (.slice ta tn tc)) := A_1.out.later hB
  have z2 : w1.heap.size ≤ w2.heap.size := hB.size
  clear hb hB HB_1 RS_1 RL_1 RT_1 A_1
  go_wp2_with fail
  refine (q1 _).mono ?_
  rintro e w' ⟨rfl, hw⟩
  subst w'
  go_wp2_with fail
  refine (q2 _).mono ?_
  rintro e w' ⟨rfl, hw⟩
  subst w'
  go_wp2
  refine bodyPost_ret (v := .tuple #[.slice none 0 0, .bool false]) (by simp [results, Try.results24, go_sem]; try rfl) rfl ?_
  exact ⟨_, _, _, rfl, World.ownsRow_nil _ _ _ _, HB_2.out⟩
 rw [hq2] at q2
 have q3 := fun wx => isList_c y wx
 cases hq3 : inB y 0 9
 ·rw [hq3] at q3
  have hB : comB ⟨f, e, sg, li, ls⟩ ep x y = false := by simp [comB, hg, hq1, hq2, hq3]
  rw [hB] at hV ⊢
  rw [hV]
  clear hV hB hs hl ht
  have HB_0 : Hid (Below w.heap.size w w) := Below.refl _ _
  have RS_0 : Hid (RdII w sa sg) := hrs
  have RL_0 : Hid (Rd w la li) := hrl
  have RT_0 : Hid (Rd w ta ls) := hrt
  clear hrs hrl hrt
  have hHB := HB_0.out.alloc HB_0.out.size (.cells #[.int .i64 f, .int .i64 e, .slice sa sn sc, .slice la ln lc, .slice ta tn tc] 29)
  have hRS := RS_0.out.later (balloc w (.cells #[.int .i64 f, .int .i64 e, .slice sa sn sc, .slice la ln lc, .slice ta tn tc] 29))
  have hRL := RL_0.out.later (balloc w (.cells #[.int .i64 f, .int .i64 e, .slice sa sn sc, .slice la ln lc, .slice ta tn tc] 29))
  have hRT := RT_0.out.later (balloc w (.cells #[.int .i64 f, .int .i64 e, .slice sa sn sc, .slice la ln lc, .slice ta tn tc] 29))
  have hA := x5_new w (.int .i64 f) (.int .i64 e) (.slice sa sn sc) (.slice la ln lc) (.slice ta tn tc) 29 w.heap.size rfl
  have hz : (w.alloc (.cells #[.int .i64 f, .int .i64 e, .slice sa sn sc, .slice la ln lc, .slice ta tn tc] 29)).heap.size = w.heap.size + 1 := by simp
  obtain ⟨w1, hV1⟩ : ∃ V, w.alloc (.cells #[.int .i64 f, .int .i64 e, .slice sa sn sc, .slice la ln lc, .slice ta tn tc] 29) = V := ⟨_, rfl⟩
  rw [hV1] at hHB hRS hRL hRT hA hz
  have HB_1 : Hid (Below w.heap.size w w1) := hHB
  have RS_1 : Hid (RdII w1 sa sg) := hRS
  have RL_1 : Hid (Rd w1 la li) := hRL
  have RT_1 : Hid (Rd w1 ta ls) := hRT
  have A_1 : Hid (X5 w1 w.heap.size (.int .i64 f) (.int .i64 e) (.slice sa sn sc) (.slice la ln lc) (.slice ta tn tc)) := hA
  have z1 : w.heap.size + 1 ≤ w1.heap.size := by omega
  clear HB_0 RS_0 RL_0 RT_0 hHB hRS hRL hRT hA hz
  go_enter Try.func24, Try.ntmps24
  obtain ⟨⟨Aq0, Aq1, Aq2, Aq3, Aq4⟩, Af⟩ := id (A_1.out)
  clear Af
  go_wp2_with fail
  clear hV1
  refine (q0 _ RS_1.out RL_1.out RT_1.out).mono ?_
  clear Aq0 Aq1 Aq2 Aq3 Aq4
  rintro e w2 ⟨rfl, hb⟩
  have hB : Below w1.heap.size w1 w2 := hb
  have HB_2 : Hid (Below w.heap.size w w2) := HB_1.out.trans (hB.mono HB_1.out.size)
  have RS_2 : Hid (RdII w2 sa sg) := RS_1.out.later hB
  have RL_2 : Hid (Rd w2 la li) := RL_1.out.later hB
  have RT_2 : Hid (Rd w2 ta ls) := RT_1.out.later hB
  have A_2 : Hid (X5 w2 w.heap.size (.int .i64 f) (.int .i64 e) (.slice sa sn sc) (.slice la ln lc) (.slice ta tn tc)) := A_1.out.later hB
  have z2 : w1.heap.size ≤ w2.heap.size := hB.size
  clear hb hB HB_1 RS_1 RL_1 RT_1 A_1
  go_wp2_with fail
  refine (q1 _).mono ?_
  rintro e w' ⟨rfl, hw⟩
  subst w'
  go_wp2_with fail
  refine (q2 _).mono ?_
  rintro e w' ⟨rfl, hw⟩
  subst w'
  go_wp2_with fail
  refine (q3 _).mono ?_
  rintro e w' ⟨rfl, hw⟩
  subst w'
  go_wp2
  refine bodyPost_ret (v := .tuple #[.slice none 0 0, .bool false]) (by simp [results, Try.results24, go_sem]; try rfl) rfl ?_
  exact ⟨_, _, _, rfl, World.ownsRow_nil _ _ _ _, HB_2.out⟩
 rw [hq3] at q3
 have hB : comB ⟨f, e, sg, li, ls⟩ ep x y = true := by simp [comB, hg, hq1, hq2, hq3]
 rw [hB] at hV ⊢
 rw [if_pos rfl] at hV
 rw [hV]
 have HS : Hid (sg.length = sn) := hs
 have HG : Hid (goodBd ⟨f, e, sg, li, ls⟩ = true) := hg
 have HSI := fun wx (h : RdII wx sa sg) => sit_ok (sc := sc) (la := la) (ln := ln) (lc := lc) (ta := ta) (tn := tn) (tc := tc) ep hs hg wx h
 have HC : Hid (∀ g wx, Rd wx la li → RdII wx (some ⟨g, 0, none⟩) (sitL (nOf f) ep sg) → Calls Try.prog 78 #[.agg #[.int .i64 f, .slice la ln lc, .slice (some ⟨g, 0, none⟩) (nOf f) (nOf f)], .int .i64 x, .int .i64 y] wx fun e w' => ∃ a' n' c', e = .returned (.slice a' n' c') ∧ Own w' wx.heap.size (.slice a' n' c') (comL (nOf f) ep li sg x y) ∧ Below wx.heap.size wx w') := fun g wx h h' => by
  have hf1 := G.ln
  have hf2 := G.f2
  rw [← comX_sit]
  exact honestOf_c f la ln lc _ (nOf f) li (sitL (nOf f) ep sg) x y wx hl (by omega) h G.lr (sitL_length _ _ _) G.N7 h' (sitL_ris _ _ _) (sitL_len (sgsB_all G.sgOk).1)
 obtain ⟨N, hNN⟩ : ∃ N, nOf f = N := ⟨_, rfl⟩
 rw [hNN] at HSI HC ⊢
 clear hV hB hl hs ht hg G hNN
 have HB_0 : Hid (Below w.heap.size w w) := Below.refl _ _
 have RS_0 : Hid (RdII w sa sg) := hrs
 have RL_0 : Hid (Rd w la li) := hrl
 have RT_0 : Hid (Rd w ta ls) := hrt
 clear hrs hrl hrt
 have hHB := HB_0.out.alloc HB_0.out.size (.cells #[.int .i64 f, .int .i64 e, .slice sa sn sc, .slice la ln lc, .slice ta tn tc] 29)
 have hRS := RS_0.out.later (balloc w (.cells #[.int .i64 f, .int .i64 e, .slice sa sn sc, .slice la ln lc, .slice ta tn tc] 29))
 have hRL := RL_0.out.later (balloc w (.cells #[.int .i64 f, .int .i64 e, .slice sa sn sc, .slice la ln lc, .slice ta tn tc] 29))
 have hRT := RT_0.out.later (balloc w (.cells #[.int .i64 f, .int .i64 e, .slice sa sn sc, .slice la ln lc, .slice ta tn tc] 29))
 have hA := x5_new w (.int .i64 f) (.int .i64 e) (.slice sa sn sc) (.slice la ln lc) (.slice ta tn tc) 29 w.heap.size rfl
 have hz : (w.alloc (.cells #[.int .i64 f, .int .i64 e, .slice sa sn sc, .slice la ln lc, .slice ta tn tc] 29)).heap.size = w.heap.size + 1 := by simp
 obtain ⟨w1, hV1⟩ : ∃ V, w.alloc (.cells #[.int .i64 f, .int .i64 e, .slice sa sn sc, .slice la ln lc, .slice ta tn tc] 29) = V := ⟨_, rfl⟩
 rw [hV1] at hHB hRS hRL hRT hA hz
 have HB_1 : Hid (Below w.heap.size w w1) := hHB
 have RS_1 : Hid (RdII w1 sa sg) := hRS
 have RL_1 : Hid (Rd w1 la li) := hRL
 have RT_1 : Hid (Rd w1 ta ls) := hRT
 have A_1 : Hid (X5 w1 w.heap.size (.int .i64 f) (.int .i64 e) (.slice sa sn sc) (.slice la ln lc) (.slice ta tn tc)) := hA
 have z1 : w.heap.size + 1 ≤ w1.heap.size := by omega
 clear HB_0 RS_0 RL_0 RT_0 hHB hRS hRL hRT hA hz
 go_enter Try.func24, Try.ntmps24
 obtain ⟨⟨Aq0, Aq1, Aq2, Aq3, Aq4⟩, Af⟩ := id (A_1.out)
 clear Af
 go_wp2_with fail
 clear hV1
 refine (q0 _ RS_1.out RL_1.out RT_1.out).mono ?_
 clear Aq0 Aq1 Aq2 Aq3 Aq4
 rintro e w2 ⟨rfl, hb⟩
 have hB : Below w1.heap.size w1 w2 := hb
 have HB_2 : Hid (Below w.heap.size w w2) := HB_1.out.trans (hB.mono HB_1.out.size)
 have RS_2 : Hid (RdII w2 sa sg) := RS_1.out.later hB
 have RL_2 : Hid (Rd w2 la li) := RL_1.out.later hB
 have RT_2 : Hid (Rd w2 ta ls) := RT_1.out.later hB
 have A_2 : Hid (X5 w2 w.heap.size (.int .i64 f) (.int .i64 e) (.slice sa sn sc) (.slice la ln lc) (.slice ta tn tc)) := A_1.out.later hB
 have z2 : w1.heap.size ≤ w2.heap.size := hB.size
 clear hb hB HB_1 RS_1 RL_1 RT_1 A_1
 go_wp2_with fail
 refine (q1 _).mono ?_
 rintro e w' ⟨rfl, hw⟩
 subst w'
 go_wp2_with fail
 refine (q2 _).mono ?_
 rintro e w' ⟨rfl, hw⟩
 subst w'
 go_wp2_with fail
 refine (q3 _).mono ?_
 rintro e w' ⟨rfl, hw⟩
 subst w'
 obtain ⟨⟨Aq0, Aq1, Aq2, Aq3, Aq4⟩, Af⟩ := id (A_2.out)
 clear Af
 go_wp2_with fail
 refine (HSI _ RS_2.out).mono ?_
 clear Aq0 Aq1 Aq2 Aq3 Aq4
 rintro e w3 ⟨g, rfl, hri, hb⟩
 have hB : Below w2.heap.size w2 w3 := hb
 have HB_3 : Hid (Below w.heap.size w w3) := HB_2.out.trans (hB.mono HB_2.out.size)
 have RS_3 : Hid (RdII w3 sa sg) := RS_2.out.later hB
 have RL_3 : Hid (Rd w3 la li) := RL_2.out.later hB
 have RT_3 : Hid (Rd w3 ta ls) := RT_2.out.later hB
 have A_3 : Hid (X5 w3 w.heap.size (.int .i64 f) (.int .i64 e) (.slice sa sn sc) (.slice la ln lc) (.slice ta tn tc)) := A_2.out.later hB
 have z3 : w2.heap.size ≤ w3.heap.size := hB.size
 have RG_3 : Hid (RdII w3 (some ⟨g, 0, none⟩) (sitL N ep sg)) := hri
 clear hb hB HB_2 RS_2 RL_2 RT_2 A_2 hri
 go_wp2_with fail
 refine (HC.out g _ RL_3.out RG_3.out).mono ?_
 rintro e w4 ⟨a', n', c', rfl, ho, hb⟩
 have hB : Below w3.heap.size w3 w4 := hb
 have HB_4 : Hid (Below w.heap.size w w4) := HB_3.out.trans (hB.mono HB_3.out.size)
 have RS_4 : Hid (RdII w4 sa sg) := RS_3.out.later hB
 have RL_4 : Hid (Rd w4 la li) := RL_3.out.later hB
 have RT_4 : Hid (Rd w4 ta ls) := RT_3.out.later hB
 have A_4 : Hid (X5 w4 w.heap.size (.int .i64 f) (.int .i64 e) (.slice sa sn sc) (.slice la ln lc) (.slice ta tn tc)) := A_3.out.later hB
 have RG_4 : Hid (RdII w4 (some ⟨g, 0, none⟩) (sitL N ep sg)) := RG_3.out.later hB
 have z4 : w3.heap.size ≤ w4.heap.size := hB.size
 have OW_4 : Hid (Own w4 w3.heap.size (.slice a' n' c') (comL N ep li sg x y)) := ho
 clear hb hB HB_3 RS_3 RL_3 RT_3 A_3 RG_3 ho
 go_wp2
 refine bodyPost_ret (v := .tuple #[.slice a' n' c', .bool true]) (by simp [results, Try.results24, go_sem]; try rfl) rfl ?_
 exact ⟨_, _, _, rfl, OW_4.out.mono (by omega), HB_4.out⟩

end Go.Proofs.Ytaokmjbhgkfnfaa
