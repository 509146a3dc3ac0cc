/- Chapter 13: l13Signers, CertifiedIn, CommonHonest of the specification. -/
import Derived.Test.YtaokmjbhgkfnfaaSG13q
namespace Go.Proofs.Ytaokmjbhgkfnfaa
set_option linter.unusedVariables false
set_option maxRecDepth 1000000
set_option linter.unusedSimpArgs false
open Go.RowKit

theorem sgnL_len (ep x : Int) : ∀ (l : List (List Int)) (acc : List Int), (sgnL ep x l acc).length ≤ acc.length + l.length
 | [], acc => by simp [sgnL]
 | s :: r, acc => by
  simp only [sgnL]
  have := sgnL_len ep x r (if s.getD 0 0 = ep ∧ s.getD 2 0 = x then putL (s.getD 1 0) acc else acc)
  have h2 : (if s.getD 0 0 = ep ∧ s.getD 2 0 = x then putL (s.getD 1 0) acc else acc).length ≤ acc.length + 1 := by
   split
   ·unfold putL
    split
    ·omega
    ·rw [insL_length]; exact Nat.le_refl _
   ·omega
  simp only [List.length_cons]
  omega
theorem sgnL_step (ep x : Int) {sg : List (List Int)} {k : Nat} (hk : k < sg.length) {x0 x1 x2 : Int} (hx : sg.getD k [] = [x0, x1, x2]) : sgnL ep x (sg.take (k + 1)) [] = (if x0 = ep ∧ x2 = x then putL x1 (sgnL ep x (sg.take k) []) else sgnL ep x (sg.take k) []) := by
 rw [take_snoc [] hk, sgnL_append, hx]
 rfl

set_option maxHeartbeats 2000000 in
theorem l13Signers_c (f e : Int) (sa : Option Addr) (sn sc : Nat) (la : Option Addr) (ln lc : Nat) (ta : Option Addr) (tn tc : Nat) (sg : List (List Int)) (li ls : List Int) (ep x : Int) (w : World) (hs : sg.length = sn) (hrs : RdII w sa sg) (hg : sgsB f sg = true) :
  Calls Try.prog 79 #[.agg #[.int .i64 f, .int .i64 e, .slice sa sn sc, .slice la ln lc, .slice ta tn tc], .int .i64 ep, .int .i64 x] w fun r w' => ∃ a' n' c', r = .returned (.slice a' n' c') ∧ Own w' w.heap.size (.slice a' n' c') (sgnL ep x sg []) ∧ Below w.heap.size w w' := by
 have HS : Hid (sg.length = sn) := hs
 have hsn : sn ≤ 200 := by rw [← hs]; exact (sgsB_all hg).1
 have HSG : Hid (∀ k, k < sn → ∃ x0 x1 x2 : Int, sg.getD k [] = [x0, x1, x2]) := fun k hk => by
  have h := (sgsB_all hg).2 _ (mem_getD [] (show k < sg.length by omega))
  obtain ⟨x0, x1, x2, hx, _⟩ := sig_three (f := f) (sigB_mem h).1
  exact ⟨x0, x1, x2, hx⟩
 have hB := balloc w (.cells #[.int .i64 f, .int .i64 e, .slice sa sn sc, .slice la ln lc, .slice ta tn tc] 29)
 have hC := x5_new w (.int .i64 f) (.int .i64 e) (.slice sa sn sc) (.slice la ln lc) (.slice ta tn tc) 29 w.heap.size rfl
 obtain ⟨V, hV⟩ : ∃ V, w.alloc (.cells #[.int .i64 f, .int .i64 e, .slice sa sn sc, .slice la ln lc, .slice ta tn tc] 29) = V := ⟨_, rfl⟩
 rw [hV] at hB hC
 have HB0 : Hid (Below w.heap.size w V) := hB
 have HC : Hid (X5 V w.heap.size (.int .i64 f) (.int .i64 e) (.slice sa sn sc) (.slice la ln lc) (.slice ta tn tc)) := hC
 have HRX : Hid (∀ wx, Below V.heap.size V wx → RdII wx sa sg) := fun wx h => (hrs.later hB).later h
 have HVS : Hid (w.heap.size ≤ V.heap.size) := hB.size
 obtain ⟨⟨g0, g1, g2, g3, g4⟩, _⟩ := hC
 clear hB hs hrs hg
 go_enter Try.func79, Try.ntmps79
 go_wp2
 clear hV g0 g1 g2 g3 g4
 go_loopw [7, 13] (fun lv iv wr => ∃ (k : Nat) (a' : Option Addr) (n' c' : Nat), k ≤ sn ∧ iv = .int .i64 k ∧ lv = .slice a' n' c' ∧ Hid (Own wr V.heap.size (.slice a' n' c') (sgnL ep x (sg.take k) [])) ∧ Hid (Below V.heap.size V wr)) (fun _ iv _ => sn - (intOf iv).toNat)
 case atStart => exact ⟨0, none, 0, 0, Nat.zero_le _, rfl, rfl, World.ownsRow_nil _ _ _ _, Below.refl _ _⟩
 case round =>
  obtain ⟨k, a', n', c', hk, rfl, rfl, HO, HB⟩ := hrel
  by_cases hlt : k < sn
  case neg =>
   obtain rfl : k = sn := by omega
   have HO2 : Hid (Own wr V.heap.size (.slice a' n' c') (sgnL ep x sg [])) := by have := HO.out; rw [List.take_of_length_le (by rw [HS.out]; exact Nat.le_refl _)] at this; exact this
   clear HO
   go_wp2
   go_ret
   exact ⟨_, _, _, rfl, HO2.out.mono HVS.out, HB0.out.trans (HB.out.mono HB0.out.size)⟩
  have hkl : k < sg.length := by rw [HS.out]; exact hlt
  obtain ⟨x0, x1, x2, hx⟩ := HSG.out k hlt
  have hst := sgnL_step ep x hkl hx
  have HST : Hid (sgnL ep x (sg.take (k + 1)) [] = (if x0 = ep ∧ x2 = x then putL x1 (sgnL ep x (sg.take k) []) else sgnL ep x (sg.take k) [])) := hst
  have hnk : n' ≤ 200 := by
   have h1 := HO.out.rd'.1
   have h2 := sgnL_len ep x (sg.take k) []
   rw [List.length_take] at h2
   simp only [List.length_nil] at h2
   omega
  have HRI : Hid (Ris ltI (sgnL ep x (sg.take k) [])) := sgnL_ris _ _ _ List.Pairwise.nil
  obtain ⟨b, o, ro, rc, rfl, r0, hro⟩ := (HRX.out _ HB.out).get hkl
  rw [hx] at r0 hro
  simp only [List.length_cons, List.length_nil, Nat.zero_add, Nat.reduceAdd] at r0
  obtain ⟨gb, go, rfl, e0⟩ := hro.get (k := 0) (by simp)
  obtain ⟨gb', go', he, e1⟩ := hro.get (k := 1) (by simp)
  simp only [Option.some.injEq, Addr.mk.injEq] at he
  obtain ⟨rfl, rfl, _⟩ := he
  obtain ⟨gb', go', he, e2⟩ := hro.get (k := 2) (by simp)
  simp only [Option.some.injEq, Addr.mk.injEq] at he
  obtain ⟨rfl, rfl, _⟩ := he
  simp only [List.getD_cons_zero, List.getD_cons_succ, Nat.add_zero] at e0 e1 e2
  have k0 : (0 : Int) ≤ (k : Int) := by omega
  have k1 : (k : Int) < (sn : Int) := by omega
  obtain ⟨⟨c0, c1, c2, c3, c4⟩, _⟩ := HC.out.later HB.out
  obtain ⟨cur, hcur⟩ : ∃ cur, sgnL ep x (sg.take k) [] = cur := ⟨_, rfl⟩
  rw [hcur] at HO HST HRI
  clear hst hx hkl hro hcur
  by_cases hq0 : x0 = ep
  case neg =>
   have hq0' : (x0 == ep) = false := by simpa using hq0
   have HN : Hid (¬ (x0 = ep ∧ x2 = x)) := fun h => hq0 h.1
   clear hq0
   go_wp2
   exact ⟨⟨k + 1, a', n', c', by omega, by go_num, rfl, by show Own _ _ _ _; rw [HST.out, if_neg HN.out]; exact HO.out, HB⟩, by simp [intOf]; omega⟩
  have hq0' : (x0 == ep) = true := by simpa using hq0
  by_cases hq2 : x2 = x
  case neg =>
   have hq2' : (x2 == x) = false := by simpa using hq2
   have HN : Hid (¬ (x0 = ep ∧ x2 = x)) := fun h => hq2 h.2
   clear hq0 hq2
   go_wp2
   exact ⟨⟨k + 1, a', n', c', by omega, by go_num, rfl, by show Own _ _ _ _; rw [HST.out, if_neg HN.out]; exact HO.out, HB⟩, by simp [intOf]; omega⟩
  have hq2' : (x2 == x) = true := by simpa using hq2
  have HN : Hid (x0 = ep ∧ x2 = x) := ⟨hq0, hq2⟩
  clear hq0 hq2
  have HCL : Hid (cur.length = n') := HO.out.rd'.1
  by_cases hin : x1 ∈ cur
  case pos =>
   have HP : Hid (putL x1 cur = cur) := by show _ = _; unfold putL; rw [if_pos hin]
   have q := l1Put_in a' n' c' cur x1 wr HCL.out (by omega) HO.out.rd'.2 HRI.out hin
   clear hin
   go_wp2_with fail
   refine q.mono ?_
   clear q
   rintro e w' ⟨rfl, hw⟩
   subst w'
   go_wp2
   exact ⟨⟨k + 1, a', n', c', by omega, by go_num, rfl, by show Own _ _ _ _; rw [HST.out, if_pos HN.out, HP.out]; exact HO.out, HB⟩, by simp [intOf]; omega⟩
  have HP : Hid (putL x1 cur = insL ltI x1 cur) := by show _ = _; unfold putL; rw [if_neg hin]
  have q := l1Put_c V.heap.size a' n' c' cur x1 wr HCL.out (by omega) HO.out hin
  clear hin
  go_wp2_with fail
  refine q.mono ?_
  clear q
  rintro e w' ⟨a2, c2', rfl, ho, hb⟩
  have HO2 : Hid (Own w' V.heap.size (.slice a2 (n' + 1) c2') (insL ltI x1 cur)) := ho.mono HB.out.size
  have HB2 : Hid (Below V.heap.size V w') := HB.out.trans (hb.mono HB.out.size)
  clear ho hb
  go_wp2
  exact ⟨⟨k + 1, a2, n' + 1, c2', by omega, by go_num, rfl, by show Own _ _ _ _; rw [HST.out, if_pos HN.out, HP.out]; exact HO2.out, HB2⟩, by simp [intOf]; omega⟩

set_option maxHeartbeats 2000000 in
theorem specCert_c (f e : Int) (sa : Option Addr) (sn sc : Nat) (la : Option Addr) (ln lc : Nat) (ta : Option Addr) (tn tc : Nat) (sg : List (List Int)) (li ls : List Int) (ep : Int) (w : World) (hsc : sn ≤ sc) (hs : sg.length = sn) (hsn : sn ≤ 1048576) (hl : li.length = ln) (hln : ln ≤ 1048576) (ht : ls.length = tn) (htn : tn ≤ 1048576) (hrs : RdII w sa sg) (hrl : Rd w la li) (hrt : Rd w ta ls) :
  Calls Try.prog 28 #[.agg #[.int .i64 f, .int .i64 e, .slice sa sn sc, .slice la ln lc, .slice ta tn tc], .int .i64 ep] w fun r w' => ∃ a' n' c', r = .returned (.tuple #[.slice a' n' c', .bool (certB ⟨f, e, sg, li, ls⟩ ep)]) ∧ Own w' w.heap.size (.slice a' n' c') (certV ⟨f, e, sg, li, ls⟩ ep) ∧ Below w.heap.size w w' := by
 have hV : certV ⟨f, e, sg, li, ls⟩ ep = (if certB ⟨f, e, sg, li, ls⟩ ep = true then certL (nOf f) (qOf f) ep sg else []) := rfl
 have q0 := fun wx (h1 : RdII wx sa sg) (h2 : Rd wx la li) (h3 : Rd wx ta ls) => specGood_c f e sa sn sc la ln lc ta tn tc sg li ls wx hsc hs hsn hl hln ht htn h1 h2 h3
 cases hg : goodBd ⟨f, e, sg, li, ls⟩
 ·rw [hg] at q0
  have hB : certB ⟨f, e, sg, li, ls⟩ ep = false := by simp [certB, hg]
  rw [hB] at hV ⊢
  rw [hV]
  clear hV hB hs hl ht
  have HB_0 : Hid (Below w.heap.size w w) := Below.refl _ _
  have RS_0 : Hid (RdII w sa sg) := hrs
  have RL_0 : Hid (Rd w la li) := hrl
  have RT_0 : Hid (Rd w ta ls) := hrt
  clear hrs hrl hrt
  have hHB := HB_0.out.alloc HB_0.out.size (.cells #[.int .i64 f, .int .i64 e, .slice sa sn sc, .slice la ln lc, .slice ta tn tc] 29)
  have hRS := RS_0.out.later (balloc w (.cells #[.int .i64 f, .int .i64 e, .slice sa sn sc, .slice la ln lc, .slice ta tn tc] 29))
  have hRL := RL_0.out.later (balloc w (.cells #[.int .i64 f, .int .i64 e, .slice sa sn sc, .slice la ln lc, .slice ta tn tc] 29))
  have hRT := RT_0.out.later (balloc w (.cells #[.int .i64 f, .int .i64 e, .slice sa sn sc, .slice la ln lc, .slice ta tn tc] 29))
  have hA := x5_new w (.int .i64 f) (.int .i64 e) (.slice sa sn sc) (.slice la ln lc) (.slice ta tn tc) 29 w.heap.size rfl
  have hz : (w.alloc (.cells #[.int .i64 f, .int .i64 e, .slice sa sn sc, .slice la ln lc, .slice ta tn tc] 29)).heap.size = w.heap.size + 1 := by simp
  obtain ⟨w1, hV1⟩ : ∃ V, w.alloc (.cells #[.int .i64 f, .int .i64 e, .slice sa sn sc, .slice la ln lc, .slice ta tn tc] 29) = V := ⟨_, rfl⟩
  rw [hV1] at hHB hRS hRL hRT hA hz
  have HB_1 : Hid (Below w.heap.size w w1) := hHB
  have RS_1 : Hid (RdII w1 sa sg) := hRS
  have RL_1 : Hid (Rd w1 la li) := hRL
  have RT_1 : Hid (Rd w1 ta ls) := hRT
  have A_1 : Hid (X5 w1 w.heap.size (.int .i64 f) (.int .i64 e) (.slice sa sn sc) (.slice la ln lc) (.slice ta tn tc)) := hA
  have z1 : w.heap.size + 1 ≤ w1.heap.size := by omega
  clear HB_0 RS_0 RL_0 RT_0 hHB hRS hRL hRT hA hz
  go_enter Try.func28, Try.ntmps28
  obtain ⟨⟨Aq0, Aq1, Aq2, Aq3, Aq4⟩, Af⟩ := id (A_1.out)
  clear Af
  go_wp2_with fail
  clear hV1
  refine (q0 _ RS_1.out RL_1.out RT_1.out).mono ?_
  clear Aq0 Aq1 Aq2 Aq3 Aq4
  rintro e w2 ⟨rfl, hb⟩
  have hB : Below w1.heap.size w1 w2 := hb
  have HB_2 : Hid (Below w.heap.size w w2) := HB_1.out.trans (hB.mono HB_1.out.size)
  have RS_2 : Hid (RdII w2 sa sg) := RS_1.out.later hB
  have RL_2 : Hid (Rd w2 la li) := RL_1.out.later hB
  have RT_2 : Hid (Rd w2 ta ls) := RT_1.out.later hB
  have A_2 : Hid (X5 w2 w.heap.size (.int .i64 f) (.int .i64 e) (.slice sa sn sc) (.slice la ln lc) (.slice ta tn tc)) := A_1.out.later hB
  have z2 : w1.heap.size ≤ w2.heap.size := hB.size
  clear hb hB HB_1 RS_1 RL_1 RT_1 A_1
  go_wp2
  refine bodyPost_ret (v := .tuple #[.slice none 0 0, .bool false]) (by simp [results, Try.results28, go_sem]; try rfl) rfl ?_
  exact ⟨_, _, _, rfl, World.ownsRow_nil _ _ _ _, HB_2.out⟩
 have G := good_is hg
 rw [hg] at q0
 have q1 := fun wx => l1In_c ep 0 20 wx
 rw [show decide (0 ≤ ep ∧ ep ≤ 20) = inB ep 0 20 from rfl] at q1
 cases hq1 : inB ep 0 20
 ·rw [hq1] at q1
  have hB : certB ⟨f, e, sg, li, ls⟩ ep = false := by simp [certB, hg, hq1]
  rw [hB] at hV ⊢
  rw [hV]
  clear hV hB hs hl ht
  have HB_0 : Hid (Below w.heap.size w w) := Below.refl _ _
  have RS_0 : Hid (RdII w sa sg) := hrs
  have RL_0 : Hid (Rd w la li) := hrl
  have RT_0 : Hid (Rd w ta ls) := hrt
  clear hrs hrl hrt
  have hHB := HB_0.out.alloc HB_0.out.size (.cells #[.int .i64 f, .int .i64 e, .slice sa sn sc, .slice la ln lc, .slice ta tn tc] 29)
  have hRS := RS_0.out.later (balloc w (.cells #[.int .i64 f, .int .i64 e, .slice sa sn sc, .slice la ln lc, .slice ta tn tc] 29))
  have hRL := RL_0.out.later (balloc w (.cells #[.int .i64 f, .int .i64 e, .slice sa sn sc, .slice la ln lc, .slice ta tn tc] 29))
  have hRT := RT_0.out.later (balloc w (.cells #[.int .i64 f, .int .i64 e, .slice sa sn sc, .slice la ln lc, .slice ta tn tc] 29))
  have hA := x5_new w (.int .i64 f) (.int .i64 e) (.slice sa sn sc) (.slice la ln lc) (.slice ta tn tc) 29 w.heap.size rfl
  have hz : (w.alloc (.cells #[.int .i64 f, .int .i64 e, .slice sa sn sc, .slice la ln lc, .slice ta tn tc] 29)).heap.size = w.heap.size + 1 := by simp
  obtain ⟨w1, hV1⟩ : ∃ V, w.alloc (.cells #[.int .i64 f, .int .i64 e, .slice sa sn sc, .slice la ln lc, .slice ta tn tc] 29) = V := ⟨_, rfl⟩
  rw [hV1] at hHB hRS hRL hRT hA hz
  have HB_1 : Hid (Below w.heap.size w w1) := hHB
  have RS_1 : Hid (RdII w1 sa sg) := hRS
  have RL_1 : Hid (Rd w1 la li) := hRL
  have RT_1 : Hid (Rd w1 ta ls) := hRT
  have A_1 : Hid (X5 w1 w.heap.size (.int .i64 f) (.int .i64 e) (.slice sa sn sc) (.slice la ln lc) (.slice ta tn tc)) := hA
  have z1 : w.heap.size + 1 ≤ w1.heap.size := by omega
  clear HB_0 RS_0 RL_0 RT_0 hHB hRS hRL hRT hA hz
  go_enter Try.func28, Try.ntmps28
  obtain ⟨⟨Aq0, Aq1, Aq2, Aq3, Aq4⟩, Af⟩ := id (A_1.out)
  clear Af
  go_wp2_with fail
  clear hV1
  refine (q0 _ RS_1.out RL_1.out RT_1.out).mono ?_
  clear Aq0 Aq1 Aq2 Aq3 Aq4
  rintro e w2 ⟨rfl, hb⟩
  have hB : Below w1.heap.size w1 w2 := hb
  have HB_2 : Hid (Below w.heap.size w w2) := HB_1.out.trans (hB.mono HB_1.out.size)
  have RS_2 : Hid (RdII w2 sa sg) := RS_1.out.later hB
  have RL_2 : Hid (Rd w2 la li) := RL_1.out.later hB
  have RT_2 : Hid (Rd w2 ta ls) := RT_1.out.later hB
  have A_2 : Hid (X5 w2 w.heap.size (.int .i64 f) (.int .i64 e) (.slice sa sn sc) (.slice la ln lc) (.slice ta tn tc)) := A_1.out.later hB
  have z2 : w1.heap.size ≤ w2.heap.size := hB.size
  clear hb hB HB_1 RS_1 RL_1 RT_1 A_1
  go_wp2_with fail
  refine (q1 _).mono ?_
  rintro e w' ⟨rfl, hw⟩
  subst w'
  go_wp2
  refine bodyPost_ret (v := .tuple #[.slice none 0 0, .bool false]) (by simp [results, Try.results28, go_sem]; try rfl) rfl ?_
  exact ⟨_, _, _, rfl, World.ownsRow_nil _ _ _ _, HB_2.out⟩
 rw [hq1] at q1
 have hB : certB ⟨f, e, sg, li, ls⟩ ep = true := by simp [certB, hg, hq1]
 rw [hB] at hV ⊢
 rw [if_pos rfl] at hV
 rw [hV]
 have HS : Hid (sg.length = sn) := hs
 have HL : Hid (li.length = ln) := hl
 have HG : Hid (goodBd ⟨f, e, sg, li, ls⟩ = true) := hg
 have hf0 := G.f0
 have hf2 := G.f2
 have hln3 := G.ln
 rw [hl] at hln3
 have HSGN : Hid (∀ x wx, RdII wx sa sg → Calls Try.prog 79 #[.agg #[.int .i64 f, .int .i64 e, .slice sa sn sc, .slice la ln lc, .slice ta tn tc], .int .i64 ep, .int .i64 x] wx fun r w' => ∃ a' n' c', r = .returned (.slice a' n' c') ∧ Own w' wx.heap.size (.slice a' n' c') (upto (nOf f) (hasS ep sg x)) ∧ Below wx.heap.size wx w') := fun x wx h => by
  have hu := sgn_upto (n := nOf f) G.fN G.sgOk ep x
  rw [← hu]
  exact l13Signers_c f e sa sn sc la ln lc ta tn tc sg li ls ep x wx hs h G.sgOk
 have q5 := fun wx => specQuo_c f wx
 have hif : inB f 0 2 = true := inB_iff.2 ⟨hf0, hf2⟩
 rw [hif, show quoF f = (3 * f + 1, 2 * f + 1) by simp [quoF, hif]] at q5
 obtain ⟨Q, hQ⟩ : ∃ Q : Nat, qOf f = Q := ⟨_, rfl⟩
 have hQ2 : 2 * f + 1 = (Q : Int) := by rw [← hQ]; unfold qOf; omega
 rw [hQ2] at q5
 rw [hQ]
 obtain ⟨N, hNN⟩ : ∃ N, nOf f = N := ⟨_, rfl⟩
 rw [hNN] at HSGN ⊢
 generalize 3 * f + 1 = M at q5
 clear hV hB hl hs ht hg G hif hQ hQ2 hNN
 have HB_0 : Hid (Below w.heap.size w w) := Below.refl _ _
 have RS_0 : Hid (RdII w sa sg) := hrs
 have RL_0 : Hid (Rd w la li) := hrl
 have RT_0 : Hid (Rd w ta ls) := hrt
 clear hrs hrl hrt
 have hHB := HB_0.out.alloc HB_0.out.size (.cells #[.int .i64 f, .int .i64 e, .slice sa sn sc, .slice la ln lc, .slice ta tn tc] 29)
 have hRS := RS_0.out.later (balloc w (.cells #[.int .i64 f, .int .i64 e, .slice sa sn sc, .slice la ln lc, .slice ta tn tc] 29))
 have hRL := RL_0.out.later (balloc w (.cells #[.int .i64 f, .int .i64 e, .slice sa sn sc, .slice la ln lc, .slice ta tn tc] 29))
 have hRT := RT_0.out.later (balloc w (.cells #[.int .i64 f, .int .i64 e, .slice sa sn sc, .slice la ln lc, .slice ta tn tc] 29))
 have hA := x5_new w (.int .i64 f) (.int .i64 e) (.slice sa sn sc) (.slice la ln lc) (.slice ta tn tc) 29 w.heap.size rfl
 have hz : (w.alloc (.cells #[.int .i64 f, .int .i64 e, .slice sa sn sc, .slice la ln lc, .slice ta tn tc] 29)).heap.size = w.heap.size + 1 := by simp
 obtain ⟨w1, hV1⟩ : ∃ V, w.alloc (.cells #[.int .i64 f, .int .i64 e, .slice sa sn sc, .slice la ln lc, .slice ta tn tc] 29) = V := ⟨_, rfl⟩
 rw [hV1] at hHB hRS hRL hRT hA hz
 have HB_1 : Hid (Below w.heap.size w w1) := hHB
 have RS_1 : Hid (RdII w1 sa sg) := hRS
 have RL_1 : Hid (Rd w1 la li) := hRL
 have RT_1 : Hid (Rd w1 ta ls) := hRT
 have A_1 : Hid (X5 w1 w.heap.size (.int .i64 f) (.int .i64 e) (.slice sa sn sc) (.slice la ln lc) (.slice ta tn tc)) := hA
 have z1 : w.heap.size + 1 ≤ w1.heap.size := by omega
 clear HB_0 RS_0 RL_0 RT_0 hHB hRS hRL hRT hA hz
 go_enter Try.func28, Try.ntmps28
 obtain ⟨⟨Aq0, Aq1, Aq2, Aq3, Aq4⟩, Af⟩ := id (A_1.out)
 clear Af
 go_wp2_with fail
 clear hV1
 refine (q0 _ RS_1.out RL_1.out RT_1.out).mono ?_
 clear Aq0 Aq1 Aq2 Aq3 Aq4
 rintro e w2 ⟨rfl, hb⟩
 have hB : Below w1.heap.size w1 w2 := hb
 have HB_2 : Hid (Below w.heap.size w w2) := HB_1.out.trans (hB.mono HB_1.out.size)
 have RS_2 : Hid (RdII w2 sa sg) := RS_1.out.later hB
 have RL_2 : Hid (Rd w2 la li) := RL_1.out.later hB
 have RT_2 : Hid (Rd w2 ta ls) := RT_1.out.later hB
 have A_2 : Hid (X5 w2 w.heap.size (.int .i64 f) (.int .i64 e) (.slice sa sn sc) (.slice la ln lc) (.slice ta tn tc)) := A_1.out.later hB
 have z2 : w1.heap.size ≤ w2.heap.size := hB.size
 clear hb hB HB_1 RS_1 RL_1 RT_1 A_1
 go_wp2_with fail
 refine (q1 _).mono ?_
 rintro e w' ⟨rfl, hw⟩
 subst w'
 obtain ⟨⟨Aq0, Aq1, Aq2, Aq3, Aq4⟩, Af⟩ := id (A_2.out)
 clear Af
 go_wp2_with fail
 refine (q5 _).mono ?_
 clear Aq0 Aq1 Aq2 Aq3 Aq4
 rintro e w' ⟨rfl, hw⟩
 subst w'
 go_wp2
 go_loopw [9, 10] (fun lv iv wr => ∃ (k : Nat) (a' : Option Addr) (n' c' : Nat), k ≤ 10 ∧ iv = .int .i64 k ∧ lv = .slice a' n' c' ∧ Hid (Own wr w2.heap.size (.slice a' n' c') (upto k fun x => decide (Q ≤ (upto N (hasS ep sg (x : Nat))).length))) ∧ Hid (Below w2.heap.size w2 wr)) (fun _ iv _ => 10 - (intOf iv).toNat)
 case atStart => exact ⟨0, none, 0, 0, Nat.zero_le _, rfl, rfl, World.ownsRow_nil _ _ _ _, Below.refl _ _⟩
 case round =>
  obtain ⟨k, a', n', c', hk, rfl, rfl, HO, HBR⟩ := hrel
  by_cases hlt : k < 10
  case neg =>
   obtain rfl : k = 10 := by omega
   go_wp2
   refine bodyPost_ret (v := .tuple #[.slice a' n' c', .bool true]) (by simp [results, Try.results28, go_sem]; try rfl) rfl ?_
   exact ⟨_, _, _, rfl, HO.out.mono (by omega), HB_2.out.trans (HBR.out.mono HB_2.out.size)⟩
  have k0 : (0 : Int) ≤ (k : Int) := by omega
  have k1 : (k : Int) < 10 := by omega
  have hnk : n' ≤ k := by rw [← HO.out.rd'.1]; exact upto_len _ _
  have HSC : Hid (∀ b, decide (Q ≤ (upto N (hasS ep sg (k : Nat))).length) = b → (upto (k + 1) fun x => decide (Q ≤ (upto N (hasS ep sg (x : Nat))).length)) = (upto k fun x => decide (Q ≤ (upto N (hasS ep sg (x : Nat))).length)) ++ (if b = true then [(k : Int)] else [])) := fun b h => by rw [upto_succ, h]
  have q := HSGN.out (k : Int) wr (RS_2.out.later HBR.out)
  obtain ⟨⟨c0, c1, c2, c3, c4⟩, _⟩ := A_2.out.later HBR.out
  go_wp2_with fail
  clear c0 c1 c2 c3 c4
  refine q.mono ?_
  clear q
  rintro r w3 ⟨a2, cnt, c2', rfl, ho, hb⟩
  have hcnt : (upto N (hasS ep sg (k : Nat))).length = cnt := ho.rd'.1
  rw [hcnt] at HSC
  have HB3 : Hid (Below w2.heap.size w2 w3) := HBR.out.trans (hb.mono HBR.out.size)
  have HO3 : Hid (Own w3 w2.heap.size (.slice a' n' c') (upto k fun x => decide (Q ≤ (upto N (hasS ep sg (x : Nat))).length))) := HO.out.later hb
  clear ho hb hcnt HO HBR
  by_cases hz : Q ≤ cnt
  case neg =>
   have HN := HSC.out _ (decide_eq_false hz)
   have HN2 : Hid ((upto (k + 1) fun x => decide (Q ≤ (upto N (hasS ep sg (x : Nat))).length)) = (upto k fun x => decide (Q ≤ (upto N (hasS ep sg (x : Nat))).length))) := by show _ = _; rw [HN]; simp
   have hz2 : ¬ (cnt : Int) ≥ (Q : Int) := by omega
   clear HSC hz HN
   go_wp2
   exact ⟨⟨k + 1, a', n', c', by omega, by go_num, rfl, by show Own _ _ _ _; rw [HN2.out]; exact HO3.out, HB3⟩, by simp [intOf]; omega⟩
  have HN := HSC.out _ (decide_eq_true hz)
  have HN2 : Hid ((upto (k + 1) fun x => decide (Q ≤ (upto N (hasS ep sg (x : Nat))).length)) = (upto k fun x => decide (Q ≤ (upto N (hasS ep sg (x : Nat))).length)) ++ [(k : Int)]) := by show _ = _; rw [HN]; simp
  have hz2 : (cnt : Int) ≥ (Q : Int) := by omega
  have hVB : w2.heap.size ≤ w3.heap.size := HB3.out.size
  have hbL := balloc w3 (.cells #[.int .i64 (k : Int)] 3)
  have hLit := litI w3 (k : Int)
  have hOL := HO3.out.later hbL
  obtain ⟨v', w6, r1, o1, gg, b1⟩ := appendI_run (w3.alloc (.cells #[.int .i64 (k : Int)] 3)) w2.heap.size (.slice a' n' c') (upto k fun x => decide (Q ≤ (upto N (hasS ep sg (x : Nat))).length)) [(k : Int)] (some ⟨w3.heap.size, 0, none⟩) 1 1 hOL hLit rfl (fun e => by cases e) (by rw [HO3.out.rd'.1]; omega) (Nat.le_trans hVB hbL.size)
  have HB6 : Hid (Below w2.heap.size w2 w6) := (HB3.out.trans (hbL.mono HB3.out.size)).trans b1
  rw [← HN2.out] at o1
  obtain ⟨a6, c6, hv6⟩ := o1.shape
  subst hv6
  have HO6 : Hid (Own w6 w2.heap.size (.slice a6 (upto (k + 1) fun x => decide (Q ≤ (upto N (hasS ep sg (x : Nat))).length)).length c6) (upto (k + 1) fun x => decide (Q ≤ (upto N (hasS ep sg (x : Nat))).length))) := o1
  generalize (upto (k + 1) fun x => decide (Q ≤ (upto N (hasS ep sg (x : Nat))).length)).length = n6 at r1 HO6
  clear o1 gg b1 hbL hLit hOL hVB HB3 HO3 HN HN2 HSC hz
  go_wp2_with (first | (at_builtin; refine Lib.wpList_append_run _ rfl _ _ _ _ rfl _ _ rfl rfl _ _ (r1 _) ?_; clear r1))
  exact ⟨⟨k + 1, a6, n6, c6, by omega, by go_num, rfl, HO6, HB6⟩, by simp [intOf]; omega⟩

set_option maxHeartbeats 2000000 in
theorem specCom_c (f e : Int) (sa : Option Addr) (sn sc : Nat) (la : Option Addr) (ln lc : Nat) (ta : Option Addr) (tn tc : Nat) (sg : List (List Int)) (li ls : List Int) (ep x y : Int) (w : World) (hsc : sn ≤ sc) (hs : sg.length = sn) (hsn : sn ≤ 1048576) (hl : li.length = ln) (hln : ln ≤ 1048576) (ht : ls.length = tn) (htn : tn ≤ 1048576) (hrs : RdII w sa sg) (hrl : Rd w la li) (hrt : Rd w ta ls) :
  Calls Try.prog 25 #[.agg #[.int .i64 f, .int .i64 e, .slice sa sn sc, .slice la ln lc, .slice ta tn tc], .int .i64 ep, .int .i64 x, .int .i64 y] w fun r w' => ∃ a' n' c', r = .returned (.tuple #[.slice a' n' c', .bool (comB ⟨f, e, sg, li, ls⟩ ep x y)]) ∧ Own w' w.heap.size (.slice a' n' c') (comV ⟨f, e, sg, li, ls⟩ ep x y) ∧ Below w.heap.size w w' := by
 have hV : comV ⟨f, e, sg, li, ls⟩ ep x y = (if comB ⟨f, e, sg, li, ls⟩ ep x y = true then comL (nOf f) ep li sg x y else []) := rfl
 have q0 := fun wx (h1 : RdII wx sa sg) (h2 : Rd wx la li) (h3 : Rd wx ta ls) => specGood_c f e sa sn sc la ln lc ta tn tc sg li ls wx hsc hs hsn hl hln ht htn h1 h2 h3
 cases hg : goodBd ⟨f, e, sg, li, ls⟩
 ·rw [hg] at q0
  have hB : comB ⟨f, e, sg, li, ls⟩ ep x y = false := by simp [comB, hg]
  rw [hB] at hV ⊢
  rw [hV]
  clear hV hB hs hl ht
  have HB_0 : Hid (Below w.heap.size w w) := Below.refl _ _
  have RS_0 : Hid (RdII w sa sg) := hrs
  have RL_0 : Hid (Rd w la li) := hrl
  have RT_0 : Hid (Rd w ta ls) := hrt
  clear hrs hrl hrt
  have hHB := HB_0.out.alloc HB_0.out.size (.cells #[.int .i64 f, .int .i64 e, .slice sa sn sc, .slice la ln lc, .slice ta tn tc] 29)
  have hRS := RS_0.out.later (balloc w (.cells #[.int .i64 f, .int .i64 e, .slice sa sn sc, .slice la ln lc, .slice ta tn tc] 29))
  have hRL := RL_0.out.later (balloc w (.cells #[.int .i64 f, .int .i64 e, .slice sa sn sc, .slice la ln lc, .slice ta tn tc] 29))
  have hRT := RT_0.out.later (balloc w (.cells #[.int .i64 f, .int .i64 e, .slice sa sn sc, .slice la ln lc, .slice ta tn tc] 29))
  have hA := x5_new w (.int .i64 f) (.int .i64 e) (.slice sa sn sc) (.slice la ln lc) (.slice ta tn tc) 29 w.heap.size rfl
  have hz : (w.alloc (.cells #[.int .i64 f, .int .i64 e, .slice sa sn sc, .slice la ln lc, .slice ta tn tc] 29)).heap.size = w.heap.size + 1 := by simp
  obtain ⟨w1, hV1⟩ : ∃ V, w.alloc (.cells #[.int .i64 f, .int .i64 e, .slice sa sn sc, .slice la ln lc, .slice ta tn tc] 29) = V := ⟨_, rfl⟩
  rw [hV1] at hHB hRS hRL hRT hA hz
  have HB_1 : Hid (Below w.heap.size w w1) := hHB
  have RS_1 : Hid (RdII w1 sa sg) := hRS
  have RL_1 : Hid (Rd w1 la li) := hRL
  have RT_1 : Hid (Rd w1 ta ls) := hRT
  have A_1 : Hid (X5 w1 w.heap.size (.int .i64 f) (.int .i64 e) (.slice sa sn sc) (.slice la ln lc) (.slice ta tn tc)) := hA
  have z1 : w.heap.size + 1 ≤ w1.heap.size := by omega
  clear HB_0 RS_0 RL_0 RT_0 hHB hRS hRL hRT hA hz
  go_enter Try.func25, Try.ntmps25
  obtain ⟨⟨Aq0, Aq1, Aq2, Aq3, Aq4⟩, Af⟩ := id (A_1.out)
  clear Af
  go_wp2_with fail
  clear hV1
  refine (q0 _ RS_1.out RL_1.out RT_1.out).mono ?_
  clear Aq0 Aq1 Aq2 Aq3 Aq4
  rintro e w2 ⟨rfl, hb⟩
  have hB : Below w1.heap.size w1 w2 := hb
  have HB_2 : Hid (Below w.heap.size w w2) := HB_1.out.trans (hB.mono HB_1.out.size)
  have RS_2 : Hid (RdII w2 sa sg) := RS_1.out.later hB
  have RL_2 : Hid (Rd w2 la li) := RL_1.out.later hB
  have RT_2 : Hid (Rd w2 ta ls) := RT_1.out.later hB
  have A_2 : Hid (X5 w2 w.heap.size (.int .i64 f) (.int .i64 e) (.slice sa sn sc) (.slice la ln lc) (.slice ta tn tc)) := A_1.out.later hB
  have z2 : w1.heap.size ≤ w2.heap.size := hB.size
  clear hb hB HB_1 RS_1 RL_1 RT_1 A_1
  go_wp2
  refine bodyPost_ret (v := .tuple #[.slice none 0 0, .bool false]) (by simp [results, Try.results25, go_sem]; try rfl) rfl ?_
  exact ⟨_, _, _, rfl, World.ownsRow_nil _ _ _ _, HB_2.out⟩
 have G := good_is hg
 rw [hg] at q0
 have q1 := fun wx => l1In_c ep 0 20 wx
 rw [show decide (0 ≤ ep ∧ ep ≤ 20) = inB ep 0 20 from rfl] at q1
 cases hq1 : inB ep 0 20
 ·rw [hq1] at q1
  have hB : comB ⟨f, e, sg, li, ls⟩ ep x y = false := by simp [comB, hg, hq1]
  rw [hB] at hV ⊢
  rw [hV]
  clear hV hB hs hl ht
  have HB_0 : Hid (Below w.heap.size w w) := Below.refl _ _
  have RS_0 : Hid (RdII w sa sg) := hrs
  have RL_0 : Hid (Rd w la li) := hrl
  have RT_0 : Hid (Rd w ta ls) := hrt
  clear hrs hrl hrt
  have hHB := HB_0.out.alloc HB_0.out.size (.cells #[.int .i64 f, .int .i64 e, .slice sa sn sc, .slice la ln lc, .slice ta tn tc] 29)
  have hRS := RS_0.out.later (balloc w (.cells #[.int .i64 f, .int .i64 e, .slice sa sn sc, .slice la ln lc, .slice ta tn tc] 29))
  have hRL := RL_0.out.later (balloc w (.cells #[.int .i64 f, .int .i64 e, .slice sa sn sc, .slice la ln lc, .slice ta tn tc] 29))
  have hRT := RT_0.out.later (balloc w (.cells #[.int .i64 f, .int .i64 e, .slice sa sn sc, .slice la ln lc, .slice ta tn tc] 29))
  have hA := x5_new w (.int .i64 f) (.int .i64 e) (.slice sa sn sc) (.slice la ln lc) (.slice ta tn tc) 29 w.heap.size rfl
  have hz : (w.alloc (.cells #[.int .i64 f, .int .i64 e, .slice sa sn sc, .slice la ln lc, .slice ta tn tc] 29)).heap.size = w.heap.size + 1 := by simp
  obtain ⟨w1, hV1⟩ : ∃ V, w.alloc (.cells #[.int .i64 f, .int .i64 e, .slice sa sn sc, .slice la ln lc, .slice ta tn tc] 29) = V := ⟨_, rfl⟩
  rw [hV1] at hHB hRS hRL hRT hA hz
  have HB_1 : Hid (Below w.heap.size w w1) := hHB
  have RS_1 : Hid (RdII w1 sa sg) := hRS
  have RL_1 : Hid (Rd w1 la li) := hRL
  have RT_1 : Hid (Rd w1 ta ls) := hRT
  have A_1 : Hid (X5 w1 w.heap.size (.int .i64 f) (.int .i64 e) (.slice sa sn sc) (.slice la ln lc) (.slice ta tn tc)) := hA
  have z1 : w.heap.size + 1 ≤ w1.heap.size := by omega
  clear HB_0 RS_0 RL_0 RT_0 hHB hRS hRL hRT hA hz
  go_enter Try.func25, Try.ntmps25
  obtain ⟨⟨Aq0, Aq1, Aq2, Aq3, Aq4⟩, Af⟩ := id (A_1.out)
  clear Af
  go_wp2_with fail
  clear hV1
  refine (q0 _ RS_1.out RL_1.out RT_1.out).mono ?_
  clear Aq0 Aq1 Aq2 Aq3 Aq4
  rintro e w2 ⟨rfl, hb⟩
  have hB : Below w1.heap.size w1 w2 := hb
  have HB_2 : Hid (Below w.heap.size w w2) := HB_1.out.trans (hB.mono HB_1.out.size)
  have RS_2 : Hid (RdII w2 sa sg) := RS_1.out.later hB
  have RL_2 : Hid (Rd w2 la li) := RL_1.out.later hB
  have RT_2 : Hid (Rd w2 ta ls) := RT_1.out.later hB
  have A_2 : Hid (X5 w2 w.heap.size (.int .i64 f) (.int .i64 e) (.slice sa sn sc) (.slice la ln lc) (.slice ta tn tc)) := A_1.out.later hB
  have z2 : w1.heap.size ≤ w2.heap.size := hB.size
  clear hb hB HB_1 RS_1 RL_1 RT_1 A_1
  go_wp2_with fail
  refine (q1 _).mono ?_
  rintro e w' ⟨rfl, hw⟩
  subst w'
  go_wp2
  refine bodyPost_ret (v := .tuple #[.slice none 0 0, .bool false]) (by simp [results, Try.results25, go_sem]; try rfl) rfl ?_
  exact ⟨_, _, _, rfl, World.ownsRow_nil _ _ _ _, HB_2.out⟩
 rw [hq1] at q1
 have q2 := fun wx => l13List_c x wx
 cases hq2 : inB x 0 9
 ·rw [hq2] at q2
  have hB : comB ⟨f, e, sg, li, ls⟩ ep x y = false := by simp [comB, hg, hq1, hq2]
  rw [hB] at hV ⊢
  rw [hV]
  clear hV hB hs hl ht
  have HB_0 : Hid (Below w.heap.size w w) := Below.refl _ _
  have RS_0 : Hid (RdII w sa sg) := hrs
  have RL_0 : Hid (Rd w la li) := hrl
  have RT_0 : Hid (Rd w ta ls) := hrt
  clear hrs hrl hrt
  have hHB := HB_0.out.alloc HB_0.out.size (.cells #[.int .i64 f, .int .i64 e, .slice sa sn sc, .slice la ln lc, .slice ta tn tc] 29)
  have hRS := RS_0.out.later (balloc w (.cells #[.int .i64 f, .int .i64 e, .slice sa sn sc, .slice la ln lc, .slice ta tn tc] 29))
  have hRL := RL_0.out.later (balloc w (.cells #[.int .i64 f, .int .i64 e, .slice sa sn sc, .slice la ln lc, .slice ta tn tc] 29))
  have hRT := RT_0.out.later (balloc w (.cells #[.int .i64 f, .int .i64 e, .slice sa sn sc, .slice la ln lc, .slice ta tn tc] 29))
  have hA := x5_new w (.int .i64 f) (.int .i64 e) (.slice sa sn sc) (.slice la ln lc) (.slice ta tn tc) 29 w.heap.size rfl
  have hz : (w.alloc (.cells #[.int .i64 f, .int .i64 e, .slice sa sn sc, .slice la ln lc, .slice ta tn tc] 29)).heap.size = w.heap.size + 1 := by simp
  obtain ⟨w1, hV1⟩ : ∃ V, w.alloc (.cells #[.int .i64 f, .int .i64 e, .slice sa sn sc, .slice la ln lc, .slice ta tn tc] 29) = V := ⟨_, rfl⟩
  rw [hV1] at hHB hRS hRL hRT hA hz
  have HB_1 : Hid (Below w.heap.size w w1) := hHB
  have RS_1 : Hid (RdII w1 sa sg) := hRS
  have RL_1 : Hid (Rd w1 la li) := hRL
  have RT_1 : Hid (Rd w1 ta ls) := hRT
  have A_1 : Hid (X5 w1 w.heap.size (.int .i64 f) (.int .i64 e) (.slice sa sn sc) (.slice la ln lc) (.slice ta tn tc)) := hA
  have z1 : w.heap.size + 1 ≤ w1.heap.size := by omega
  clear HB_0 RS_0 RL_0 RT_0 hHB hRS hRL hRT hA hz
  go_enter Try.func25, Try.ntmps25
  obtain ⟨⟨Aq0, Aq1, Aq2, Aq3, Aq4⟩, Af⟩ := id (A_1.out)
  clear Af
  go_wp2_with fail
  clear hV1
  refine (q0 _ RS_1.out RL_1.out RT_1.out).mono ?_
  clear Aq0 Aq1 Aq2 Aq3 Aq4
  rintro e w2 ⟨rfl, hb⟩
  have hB : Below w1.heap.size w1 w2 := hb
  have HB_2 : Hid (Below w.heap.size w w2) := HB_1.out.trans (hB.mono HB_1.out.size)
  have RS_2 : Hid (RdII w2 sa sg) := RS_1.out.later hB
  have RL_2 : Hid (Rd w2 la li) := RL_1.out.later hB
  have RT_2 : Hid (Rd w2 ta ls) := RT_1.out.later hB
  have A_2 : Hid (X5 w2 w.heap.size (.int .i64 f) (.int .i64 e) (.slice sa sn sc) (.slice la ln lc) (.slice ta tn tc)) := A_1.out.later hB
  have z2 : w1.heap.size ≤ w2.heap.size := hB.size
  clear hb hB HB_1 RS_1 RL_1 RT_1 A_1
  go_wp2_with fail
  refine (q1 _).mono ?_
  rintro e w' ⟨rfl, hw⟩
  subst w'
  go_wp2_with fail
  refine (q2 _).mono ?_
  rintro e w' ⟨rfl, hw⟩
  subst w'
  go_wp2
  refine bodyPost_ret (v := .tuple #[.slice none 0 0, .bool false]) (by simp [results, Try.results25, go_sem]; try rfl) rfl ?_
  exact ⟨_, _, _, rfl, World.ownsRow_nil _ _ _ _, HB_2.out⟩
 rw [hq2] at q2
 have q3 := fun wx => l13List_c y wx
 cases hq3 : inB y 0 9
 ·rw [hq3] at q3
  have hB : comB ⟨f, e, sg, li, ls⟩ ep x y = false := by simp [comB, hg, hq1, hq2, hq3]
  rw [hB] at hV ⊢
  rw [hV]
  clear hV hB hs hl ht
  have HB_0 : Hid (Below w.heap.size w w) := Below.refl _ _
  have RS_0 : Hid (RdII w sa sg) := hrs
  have RL_0 : Hid (Rd w la li) := hrl
  have RT_0 : Hid (Rd w ta ls) := hrt
  clear hrs hrl hrt
  have hHB := HB_0.out.alloc HB_0.out.size (.cells #[.int .i64 f, .int .i64 e, .slice sa sn sc, .slice la ln lc, .slice ta tn tc] 29)
  have hRS := RS_0.out.later (balloc w (.cells #[.int .i64 f, .int .i64 e, .slice sa sn sc, .slice la ln lc, .slice ta tn tc] 29))
  have hRL := RL_0.out.later (balloc w (.cells #[.int .i64 f, .int .i64 e, .slice sa sn sc, .slice la ln lc, .slice ta tn tc] 29))
  have hRT := RT_0.out.later (balloc w (.cells #[.int .i64 f, .int .i64 e, .slice sa sn sc, .slice la ln lc, .slice ta tn tc] 29))
  have hA := x5_new w (.int .i64 f) (.int .i64 e) (.slice sa sn sc) (.slice la ln lc) (.slice ta tn tc) 29 w.heap.size rfl
  have hz : (w.alloc (.cells #[.int .i64 f, .int .i64 e, .slice sa sn sc, .slice la ln lc, .slice ta tn tc] 29)).heap.size = w.heap.size + 1 := by simp
  obtain ⟨w1, hV1⟩ : ∃ V, w.alloc (.cells #[.int .i64 f, .int .i64 e, .slice sa sn sc, .slice la ln lc, .slice ta tn tc] 29) = V := ⟨_, rfl⟩
  rw [hV1] at hHB hRS hRL hRT hA hz
  have HB_1 : Hid (Below w.heap.size w w1) := hHB
  have RS_1 : Hid (RdII w1 sa sg) := hRS
  have RL_1 : Hid (Rd w1 la li) := hRL
  have RT_1 : Hid (Rd w1 ta ls) := hRT
  have A_1 : Hid (X5 w1 w.heap.size (.int .i64 f) (.int .i64 e) (.slice sa sn sc) (.slice la ln lc) (.slice ta tn tc)) := hA
  have z1 : w.heap.size + 1 ≤ w1.heap.size := by omega
  clear HB_0 RS_0 RL_0 RT_0 hHB hRS hRL hRT hA hz
  go_enter Try.func25, Try.ntmps25
  obtain ⟨⟨Aq0, Aq1, Aq2, Aq3, Aq4⟩, Af⟩ := id (A_1.out)
  clear Af
  go_wp2_with fail
  clear hV1
  refine (q0 _ RS_1.out RL_1.out RT_1.out).mono ?_
  clear Aq0 Aq1 Aq2 Aq3 Aq4
  rintro e w2 ⟨rfl, hb⟩
  have hB : Below w1.heap.size w1 w2 := hb
  have HB_2 : Hid (Below w.heap.size w w2) := HB_1.out.trans (hB.mono HB_1.out.size)
  have RS_2 : Hid (RdII w2 sa sg) := RS_1.out.later hB
  have RL_2 : Hid (Rd w2 la li) := RL_1.out.later hB
  have RT_2 : Hid (Rd w2 ta ls) := RT_1.out.later hB
  have A_2 : Hid (X5 w2 w.heap.size (.int .i64 f) (.int .i64 e) (.slice sa sn sc) (.slice la ln lc) (.slice ta tn tc)) := A_1.out.later hB
  have z2 : w1.heap.size ≤ w2.heap.size := hB.size
  clear hb hB HB_1 RS_1 RL_1 RT_1 A_1
  go_wp2_with fail
  refine (q1 _).mono ?_
  rintro e w' ⟨rfl, hw⟩
  subst w'
  go_wp2_with fail
  refine (q2 _).mono ?_
  rintro e w' ⟨rfl, hw⟩
  subst w'
  go_wp2_with fail
  refine (q3 _).mono ?_
  rintro e w' ⟨rfl, hw⟩
  subst w'
  go_wp2
  refine bodyPost_ret (v := .tuple #[.slice none 0 0, .bool false]) (by simp [results, Try.results25, go_sem]; try rfl) rfl ?_
  exact ⟨_, _, _, rfl, World.ownsRow_nil _ _ _ _, HB_2.out⟩
 rw [hq3] at q3
 have hB : comB ⟨f, e, sg, li, ls⟩ ep x y = true := by simp [comB, hg, hq1, hq2, hq3]
 rw [hB] at hV ⊢
 rw [if_pos rfl] at hV
 rw [hV]
 have HS : Hid (sg.length = sn) := hs
 have HL : Hid (li.length = ln) := hl
 have HG : Hid (goodBd ⟨f, e, sg, li, ls⟩ = true) := hg
 have hf0 := G.f0
 have hf2 := G.f2
 have hln3 := G.ln
 rw [hl] at hln3
 have HSGN : Hid (∀ x wx, RdII wx sa sg → Calls Try.prog 79 #[.agg #[.int .i64 f, .int .i64 e, .slice sa sn sc, .slice la ln lc, .slice ta tn tc], .int .i64 ep, .int .i64 x] wx fun r w' => ∃ a' n' c', r = .returned (.slice a' n' c') ∧ Own w' wx.heap.size (.slice a' n' c') (upto (nOf f) (hasS ep sg x)) ∧ Below wx.heap.size wx w') := fun x wx h => by
  have hu := sgn_upto (n := nOf f) G.fN G.sgOk ep x
  rw [← hu]
  exact l13Signers_c f e sa sn sc la ln lc ta tn tc sg li ls ep x wx hs h G.sgOk
 have hcf := com_filter (n := nOf f) G.fN G.sgOk ep li x y
 rw [sgn_upto (n := nOf f) G.fN G.sgOk ep x, sgn_upto (n := nOf f) G.fN G.sgOk ep y] at hcf
 have qx := fun wx h => HSGN.out x wx h
 have qy := fun wx h => HSGN.out y wx h
 have hXl := upto_len (nOf f) (hasS ep sg x)
 have hYl := upto_len (nOf f) (hasS ep sg y)
 have hN7 : nOf f ≤ 7 := by unfold nOf; omega
 generalize upto (nOf f) (hasS ep sg x) = X at qx hcf hXl
 generalize upto (nOf f) (hasS ep sg y) = Yl at qy hcf hYl
 rw [← hcf]
 clear hV hB hl hs ht hg G HSGN hcf
 have HB_0 : Hid (Below w.heap.size w w) := Below.refl _ _
 have RS_0 : Hid (RdII w sa sg) := hrs
 have RL_0 : Hid (Rd w la li) := hrl
 have RT_0 : Hid (Rd w ta ls) := hrt
 clear hrs hrl hrt
 have hHB := HB_0.out.alloc HB_0.out.size (.cells #[.int .i64 f, .int .i64 e, .slice sa sn sc, .slice la ln lc, .slice ta tn tc] 29)
 have hRS := RS_0.out.later (balloc w (.cells #[.int .i64 f, .int .i64 e, .slice sa sn sc, .slice la ln lc, .slice ta tn tc] 29))
 have hRL := RL_0.out.later (balloc w (.cells #[.int .i64 f, .int .i64 e, .slice sa sn sc, .slice la ln lc, .slice ta tn tc] 29))
 have hRT := RT_0.out.later (balloc w (.cells #[.int .i64 f, .int .i64 e, .slice sa sn sc, .slice la ln lc, .slice ta tn tc] 29))
 have hA := x5_new w (.int .i64 f) (.int .i64 e) (.slice sa sn sc) (.slice la ln lc) (.slice ta tn tc) 29 w.heap.size rfl
 have hz : (w.alloc (.cells #[.int .i64 f, .int .i64 e, .slice sa sn sc, .slice la ln lc, .slice ta tn tc] 29)).heap.size = w.heap.size + 1 := by simp
 obtain ⟨w1, hV1⟩ : ∃ V, w.alloc (.cells #[.int .i64 f, .int .i64 e, .slice sa sn sc, .slice la ln lc, .slice ta tn tc] 29) = V := ⟨_, rfl⟩
 rw [hV1] at hHB hRS hRL hRT hA hz
 have HB_1 : Hid (Below w.heap.size w w1) := hHB
 have RS_1 : Hid (RdII w1 sa sg) := hRS
 have RL_1 : Hid (Rd w1 la li) := hRL
 have RT_1 : Hid (Rd w1 ta ls) := hRT
 have A_1 : Hid (X5 w1 w.heap.size (.int .i64 f) (.int .i64 e) (.slice sa sn sc) (.slice la ln lc) (.slice ta tn tc)) := hA
 have z1 : w.heap.size + 1 ≤ w1.heap.size := by omega
 clear HB_0 RS_0 RL_0 RT_0 hHB hRS hRL hRT hA hz
 go_enter Try.func25, Try.ntmps25
 obtain ⟨⟨Aq0, Aq1, Aq2, Aq3, Aq4⟩, Af⟩ := id (A_1.out)
 clear Af
 go_wp2_with fail
 clear hV1
 refine (q0 _ RS_1.out RL_1.out RT_1.out).mono ?_
 clear Aq0 Aq1 Aq2 Aq3 Aq4
 rintro e w2 ⟨rfl, hb⟩
 have hB : Below w1.heap.size w1 w2 := hb
 have HB_2 : Hid (Below w.heap.size w w2) := HB_1.out.trans (hB.mono HB_1.out.size)
 have RS_2 : Hid (RdII w2 sa sg) := RS_1.out.later hB
 have RL_2 : Hid (Rd w2 la li) := RL_1.out.later hB
 have RT_2 : Hid (Rd w2 ta ls) := RT_1.out.later hB
 have A_2 : Hid (X5 w2 w.heap.size (.int .i64 f) (.int .i64 e) (.slice sa sn sc) (.slice la ln lc) (.slice ta tn tc)) := A_1.out.later hB
 have z2 : w1.heap.size ≤ w2.heap.size := hB.size
 clear hb hB HB_1 RS_1 RL_1 RT_1 A_1
 go_wp2_with fail
 refine (q1 _).mono ?_
 rintro e w' ⟨rfl, hw⟩
 subst w'
 go_wp2_with fail
 refine (q2 _).mono ?_
 rintro e w' ⟨rfl, hw⟩
 subst w'
 go_wp2_with fail
 refine (q3 _).mono ?_
 rintro e w' ⟨rfl, hw⟩
 subst w'
 obtain ⟨⟨Aq0, Aq1, Aq2, Aq3, Aq4⟩, Af⟩ := id (A_2.out)
 clear Af
 go_wp2_with fail
 refine (qy _ RS_2.out).mono ?_
 clear Aq0 Aq1 Aq2 Aq3 Aq4
 rintro e w3 ⟨ya, yn, yc, rfl, ho, hb⟩
 have hB : Below w2.heap.size w2 w3 := hb
 have HB_3 : Hid (Below w.heap.size w w3) := HB_2.out.trans (hB.mono HB_2.out.size)
 have RS_3 : Hid (RdII w3 sa sg) := RS_2.out.later hB
 have RL_3 : Hid (Rd w3 la li) := RL_2.out.later hB
 have RT_3 : Hid (Rd w3 ta ls) := RT_2.out.later hB
 have A_3 : Hid (X5 w3 w.heap.size (.int .i64 f) (.int .i64 e) (.slice sa sn sc) (.slice la ln lc) (.slice ta tn tc)) := A_2.out.later hB
 have z3 : w2.heap.size ≤ w3.heap.size := hB.size
 have OY_3 : Hid (Own w3 w2.heap.size (.slice ya yn yc) Yl) := ho
 clear hb hB HB_2 RS_2 RL_2 RT_2 A_2 ho
 obtain ⟨⟨Aq0, Aq1, Aq2, Aq3, Aq4⟩, Af⟩ := id (A_3.out)
 clear Af
 go_wp2_with fail
 refine (qx _ RS_3.out).mono ?_
 clear Aq0 Aq1 Aq2 Aq3 Aq4
 rintro e w4 ⟨xa, xn, xc, rfl, ho, hb⟩
 have hB : Below w3.heap.size w3 w4 := hb
 have HB_4 : Hid (Below w.heap.size w w4) := HB_3.out.trans (hB.mono HB_3.out.size)
 have RS_4 : Hid (RdII w4 sa sg) := RS_3.out.later hB
 have RL_4 : Hid (Rd w4 la li) := RL_3.out.later hB
 have RT_4 : Hid (Rd w4 ta ls) := RT_3.out.later hB
 have A_4 : Hid (X5 w4 w.heap.size (.int .i64 f) (.int .i64 e) (.slice sa sn sc) (.slice la ln lc) (.slice ta tn tc)) := A_3.out.later hB
 have OY_4 : Hid (Own w4 w2.heap.size (.slice ya yn yc) Yl) := OY_3.out.later hB
 have z4 : w3.heap.size ≤ w4.heap.size := hB.size
 have OX_4 : Hid (Own w4 w3.heap.size (.slice xa xn xc) X) := ho
 clear hb hB HB_3 RS_3 RL_3 RT_3 A_3 OY_3 ho
 have HXL : Hid (X.length = xn) := OX_4.out.rd'.1
 have HYL : Hid (Yl.length = yn) := OY_4.out.rd'.1
 rw [HXL.out] at hXl
 rw [HYL.out] at hYl
 go_wp2
 go_loopw [11, 41] (fun lv iv wr => ∃ (k : Nat) (a' : Option Addr) (n' c' : Nat), k ≤ xn ∧ iv = .int .i64 k ∧ lv = .slice a' n' c' ∧ Hid (Own wr w4.heap.size (.slice a' n' c') ((X.take k).filter (fun m => decide (m ∈ Yl) && !decide (m ∈ li)))) ∧ Hid (Below w4.heap.size w4 wr)) (fun _ iv _ => xn - (intOf iv).toNat)
 case atStart => exact ⟨0, none, 0, 0, Nat.zero_le _, rfl, rfl, World.ownsRow_nil _ _ _ _, Below.refl _ _⟩
 case round =>
  obtain ⟨k, a', n', c', hk, rfl, rfl, HO, HBR⟩ := hrel
  by_cases hlt : k < xn
  case neg =>
   obtain rfl : k = xn := by omega
   have HO2 : Hid (Own wr w4.heap.size (.slice a' n' c') (X.filter (fun m => decide (m ∈ Yl) && !decide (m ∈ li)))) := by have := HO.out; rw [List.take_of_length_le (by rw [HXL.out]; exact Nat.le_refl _)] at this; exact this
   clear HO
   go_wp2
   refine bodyPost_ret (v := .tuple #[.slice a' n' c', .bool true]) (by simp [results, Try.results25, go_sem]; try rfl) rfl ?_
   exact ⟨_, _, _, rfl, HO2.out.mono (by omega), HB_4.out.trans (HBR.out.mono HB_4.out.size)⟩
  have hkl : k < X.length := by rw [HXL.out]; exact hlt
  have k0 : (0 : Int) ≤ (k : Int) := by omega
  have k1 : (k : Int) < (xn : Int) := by omega
  have hnk : n' ≤ 7 := by
   have h1 := HO.out.rd'.1
   have h2 := List.length_filter_le (fun m => decide (m ∈ Yl) && !decide (m ∈ li)) (X.take k)
   rw [List.length_take] at h2
   omega
  obtain ⟨b, o, rfl, g1⟩ := (OX_4.out.later HBR.out).rd'.2.get hkl
  obtain ⟨⟨c0, c1, c2, c3, c4⟩, _⟩ := A_4.out.later HBR.out
  generalize hm : X.getD k 0 = m at g1
  have p1 := l1Has_c ya yn yc m Yl wr HYL.out (by omega) (OY_4.out.later HBR.out).rd'.2
  have p2 := l1Has_c la ln lc m li wr HL.out (by omega) (RL_4.out.later HBR.out)
  have HNX : Hid ((X.take (k + 1)).filter (fun m => decide (m ∈ Yl) && !decide (m ∈ li)) = (X.take k).filter (fun m => decide (m ∈ Yl) && !decide (m ∈ li)) ++ (if (decide (m ∈ Yl) && !decide (m ∈ li)) = true then [m] else [])) := by show _ = _; rw [take_snoc 0 hkl, List.filter_append, hm, List.filter_cons, List.filter_nil]
  clear hm hkl
  cases hz1 : decide (m ∈ Yl)
  case false =>
   have HN2 : Hid ((X.take (k + 1)).filter (fun m => decide (m ∈ Yl) && !decide (m ∈ li)) = (X.take k).filter (fun m => decide (m ∈ Yl) && !decide (m ∈ li))) := by show _ = _; rw [HNX.out, hz1]; simp
   rw [hz1] at p1
   clear hz1 HNX p2
   go_wp2_with fail
   refine p1.mono ?_
   clear p1
   rintro e w' ⟨rfl, hw⟩
   subst w'
   go_wp2
   exact ⟨⟨k + 1, a', n', c', by omega, by go_num, rfl, by show Own _ _ _ _; rw [HN2.out]; exact HO.out, HBR⟩, by simp [intOf]; omega⟩
  cases hz2 : decide (m ∈ li)
  case true =>
   have HN2 : Hid ((X.take (k + 1)).filter (fun m => decide (m ∈ Yl) && !decide (m ∈ li)) = (X.take k).filter (fun m => decide (m ∈ Yl) && !decide (m ∈ li))) := by show _ = _; rw [HNX.out, hz2]; simp
   rw [hz1] at p1
   rw [hz2] at p2
   clear hz1 hz2 HNX
   go_wp2_with fail
   refine p1.mono ?_
   clear p1
   rintro e w' ⟨rfl, hw⟩
   subst w'
   go_wp2_with fail
   refine p2.mono ?_
   clear p2
   rintro e w' ⟨rfl, hw⟩
   subst w'
   go_wp2
   exact ⟨⟨k + 1, a', n', c', by omega, by go_num, rfl, by show Own _ _ _ _; rw [HN2.out]; exact HO.out, HBR⟩, by simp [intOf]; omega⟩
  have HN2 : Hid ((X.take (k + 1)).filter (fun m => decide (m ∈ Yl) && !decide (m ∈ li)) = (X.take k).filter (fun m => decide (m ∈ Yl) && !decide (m ∈ li)) ++ [m]) := by show _ = _; rw [HNX.out, hz1, hz2]; simp
  rw [hz1] at p1
  rw [hz2] at p2
  have hVB : w4.heap.size ≤ wr.heap.size := HBR.out.size
  have hbL := balloc wr (.cells #[.int .i64 m] 3)
  have hLit := litI wr m
  have hOL := HO.out.later hbL
  obtain ⟨v', w6, r1, o1, gg, b1⟩ := appendI_run (wr.alloc (.cells #[.int .i64 m] 3)) w4.heap.size (.slice a' n' c') _ [m] (some ⟨wr.heap.size, 0, none⟩) 1 1 hOL hLit rfl (fun e => by cases e) (by rw [HO.out.rd'.1]; omega) (Nat.le_trans hVB hbL.size)
  have HB6 : Hid (Below w4.heap.size w4 w6) := (HBR.out.trans (hbL.mono HBR.out.size)).trans b1
  rw [← HN2.out] at o1
  obtain ⟨a6, c6, hv6⟩ := o1.shape
  subst hv6
  have HO6 : Hid (Own w6 w4.heap.size (.slice a6 ((X.take (k + 1)).filter (fun m => decide (m ∈ Yl) && !decide (m ∈ li))).length c6) ((X.take (k + 1)).filter (fun m => decide (m ∈ Yl) && !decide (m ∈ li)))) := o1
  generalize ((X.take (k + 1)).filter (fun m => decide (m ∈ Yl) && !decide (m ∈ li))).length = n6 at r1 HO6
  clear o1 gg b1 hbL hLit hOL hVB HN2 HNX hz1 hz2
  go_wp2_with fail
  refine p1.mono ?_
  clear p1
  rintro e w' ⟨rfl, hw⟩
  subst w'
  go_wp2_with fail
  refine p2.mono ?_
  clear p2
  rintro e w' ⟨rfl, hw⟩
  subst w'
  go_wp2_with (first | (at_builtin; refine Lib.wpList_append_run _ rfl _ _ _ _ rfl _ _ rfl rfl _ _ (r1 _) ?_; clear r1))
  exact ⟨⟨k + 1, a6, n6, c6, by omega, by go_num, rfl, HO6, HB6⟩, by simp [intOf]; omega⟩

end Go.Proofs.Ytaokmjbhgkfnfaa
